/-
  W9, W10, D0, D1, D2, D3, D4 laid together.
-/
import Derived.Test.YtfjpfdmlcgkfeaaBase
import Derived.Test.YtfjpfdmlcgkfeaaApp
import Derived.Test.YtfjpfdmlcgkfeaaKRecs
/-
  WALKS: the reader of a drawn input (spec.newReader, pick, of), names that are drawn.
-/
namespace Go.Proofs.Ytfjpfdmlcgkfeaa
open Go.RowKit Nm
set_option linter.unusedSimpArgs false
set_option linter.unusedVariables false

/-- WHAT A LAW IS TOLD OF ITS CODE: nil, or a row of bytes. -/
def IsRow (k : IntKind) (w : World) (a : Option Addr) (len cap : Nat) (zs : List Int) : Prop :=
  (a = none ∧ len = 0 ∧ cap = 0 ∧ zs = []) ∨
  ∃ x, a = some x ∧ len ≤ cap ∧ cap ≤ maxLen ∧ zs.length = cap ∧ (∀ i, i < zs.length → w.cell? (x.add i) = some (.int k (zs.getD i 0))) ∧ ∀ n ∈ zs, (Lit.int k n).wf = true
/-- n bytes lie at A, in a block below R -/
def Bytes (w : World) (R : Nat) (A : Option Addr) (n : Nat) : Prop :=
  0 < n → ∃ b o, A = some ⟨b, o, none⟩ ∧ b < R ∧ b < w.heap.size ∧ ∀ j, j < n → ∃ x : Nat, x < 256 ∧ w.cell? ⟨b, o + j, none⟩ = some (.int .u8 x)
/-- block R is a reader that has read p numbers -/
def Rdr (w : World) (R p : Nat) : Prop :=
  ∃ A m c, w.heap[R]? = some (.cells #[.slice A m c, .int .i64 p] 67 (0, 0)) ∧ m ≤ 2000 ∧ m ≤ c ∧ c ≤ maxLen ∧ Bytes w R A m

theorem Bytes.kept {w w' : World} {R n : Nat} {A : Option Addr} (h : Bytes w R A n) (hg : w.grownBy w' (some R)) : Bytes w' R A n := by
  intro hn
  obtain ⟨b, o, e, h1, h2, h3⟩ := h hn
  refine ⟨b, o, e, h1, Nat.lt_of_lt_of_le h2 hg.size, fun j hj => ?_⟩
  obtain ⟨x, hx, hc⟩ := h3 j hj
  exact ⟨x, hx, (World.cell?_of_block (hg.block b h2 (by simpa using Nat.ne_of_lt h1))).trans hc⟩
theorem Rdr.lt {w : World} {R p : Nat} (h : Rdr w R p) : R < w.heap.size := by
  obtain ⟨A, m, c, h, _⟩ := h
  exact (Array.getElem?_eq_some_iff.1 h).1
theorem Rdr.below {w w' : World} {R p : Nat} (h : Rdr w R p) (hb : Below w.heap.size w w') : Rdr w' R p := by
  obtain ⟨A, m, c, h1, h2, h3, h4, h5⟩ := h
  exact ⟨A, m, c, (hb.block R (Array.getElem?_eq_some_iff.1 h1).1).trans h1, h2, h3, h4, h5.kept (grown_of hb _)⟩
theorem grown_drN {a w : World} {row : Option Nat} (h : a.grownBy w row) (n : Nat) : a.grownBy (w.drewN n) row := ⟨h.os, h.tape, h.output, h.size, h.block⟩

set_option maxHeartbeats 1000000 in
set_option maxRecDepth 100000 in
theorem newReader_c (a : Option Addr) (len cap : Nat) (z : List Int) (w : World) (h : IsRow .u8 w a len cap z) :
    Calls Try.prog 36 #[.slice a len cap] w fun e w' => e = .returned (.pointer (some ⟨w.heap.size, 0, none⟩)) ∧ Rdr w' w.heap.size 0 ∧ Below w.heap.size w w' := by
  have key : len ≤ cap ∧ cap ≤ maxLen ∧ ∀ n, n ≤ len → ∀ w', Below w.heap.size w w' → Bytes w' w.heap.size a n := by
    rcases h with ⟨rfl, rfl, rfl, rfl⟩ | ⟨x, rfl, h1, h2, h3, h4, h5⟩
    · exact ⟨Nat.le_refl _, Nat.zero_le _, fun n hn w' _ h0 => by omega⟩
    · refine ⟨h1, h2, fun n hn w' hb h0 => ?_⟩
      have hc0 := h4 0 (by omega)
      obtain ⟨b, o, rfl, hc⟩ := Go.ints_at h4 (by omega)
      have hlt : b < w.heap.size := World.block_lt_of_cell? w ⟨b, o, none⟩ (by simpa using hc 0 (by omega))
      refine ⟨b, o, rfl, by omega, Nat.lt_of_lt_of_le hlt hb.size, fun j hj => ?_⟩
      have hj2 : j < z.length := by omega
      have hm : z.getD j 0 ∈ z := by rw [List.getD_eq_getElem?_getD, List.getElem?_eq_getElem hj2]; exact List.getElem_mem hj2
      have hw := h5 _ hm
      have hw2 : 0 ≤ z.getD j 0 ∧ z.getD j 0 ≤ 255 := by simpa [Lit.wf, IntKind.min, IntKind.max, IntKind.signed, IntKind.bits] using hw
      refine ⟨(z.getD j 0).toNat, by omega, ?_⟩
      rw [(hb.cell (p := ⟨b, o + j, none⟩) hlt), hc j hj2]
      congr 2; omega
  obtain ⟨h1, h2, h3⟩ := key
  have H3 := hid h3
  have hcm := h2
  unfold maxLen at hcm
  clear h3 h
  by_cases hb : 2000 < len
  · go_enter Try.func36, Try.ntmps36
    go_wp2_with fail
    go_ret
    have hB : Below w.heap.size w (w.alloc (.cells #[.slice a 2000 cap, .int .i64 0] 67)) := (Below.refl _ _).alloc (Nat.le_refl _) _
    exact ⟨rfl, ⟨a, 2000, cap, heap_alloc_new w _, Nat.le_refl _, by omega, h2, H3.out 2000 (by omega) _ hB⟩, hB⟩
  · go_enter Try.func36, Try.ntmps36
    go_wp2_with fail
    go_ret
    have hB : Below w.heap.size w (w.alloc (.cells #[.slice a len cap, .int .i64 0] 67)) := (Below.refl _ _).alloc (Nat.le_refl _) _
    exact ⟨rfl, ⟨a, len, cap, heap_alloc_new w _, by omega, h1, h2, H3.out len (Nat.le_refl _) _ hB⟩, hB⟩

def PickPost (R p : Nat) (n : Int) (w : World) (e : Ending) (w' : World) : Prop :=
  ∃ k : Nat, e = .returned (.int .i64 k) ∧ (1 ≤ n → (k : Int) < n) ∧ (n < 1 → k = 0) ∧ Rdr w' R (p + 1) ∧ w.grownBy w' (some R)

theorem ofInt_toNat (a : Nat) (ha : a < 4611686018427387904) : (BitVec.ofInt 64 (a : Int)).toNat = a := by
  rw [BitVec.ofInt_natCast, BitVec.toNat_ofNat]; exact Nat.mod_eq_of_lt (by omega)
theorem xor_nat (a b : Nat) (ha : a < 4611686018427387904) (hb : b < 4611686018427387904) : bits BinOp.xor IntKind.i64 (a : Int) (b : Int) = ((a ^^^ b : Nat) : Int) := by
  have hx : a ^^^ b < 2 ^ 62 := Nat.xor_lt_two_pow (by omega) (by omega)
  show IntKind.i64.wrap ((BitVec.ofInt 64 (a : Int) ^^^ BitVec.ofInt 64 (b : Int)).toNat : Int) = _
  rw [BitVec.toNat_xor, ofInt_toNat a ha, ofInt_toNat b hb, IntKind.wrap_i64]
  omega
theorem wr_in (n : Int) (h1 : -4611686018427387904 ≤ n) (h2 : n ≤ 4611686018427387904) : wrap64 n = n := IntWalk.wrap64_in (by omega) (by omega)
theorem pick_val (x y p m N : Nat) (hx : x < 256) (hy : y < 256) (hp : p ≤ 1000000) (hN : 1 ≤ N) :
    ∃ r : Nat, ((bits BinOp.xor IntKind.i64 (wrap64 ((x : Int) * 131 + (y : Int) * 1117 + (p : Int) * 29 + wrap64 (wrap64 ((p : Int) / (m : Int)) * 53)))
      (wrap64 ((wrap64 ((x : Int) * 131 + (y : Int) * 1117 + (p : Int) * 29 + wrap64 (wrap64 ((p : Int) / (m : Int)) * 53))).tdiv 64))).tmod (N : Int)) = (r : Int) ∧ r < N := by
  have hq : p / m ≤ 1000000 := Nat.le_trans (Nat.div_le_self _ _) hp
  rw [show (p : Int) / (m : Int) = ((p / m : Nat) : Int) from rfl]
  generalize p / m = q at hq ⊢
  have e1 : wrap64 (q : Int) = (q : Int) := wr_in _ (by omega) (by omega)
  have e2 : wrap64 ((q : Int) * 53) = ((q * 53 : Nat) : Int) := by
    rw [wr_in _ (by omega) (by omega)]; omega
  rw [e1, e2]
  have e3 : wrap64 ((x : Int) * 131 + (y : Int) * 1117 + (p : Int) * 29 + ((q * 53 : Nat) : Int)) = ((x * 131 + y * 1117 + p * 29 + q * 53 : Nat) : Int) := by
    rw [wr_in _ (by omega) (by omega)]; omega
  rw [e3]
  generalize hX : x * 131 + y * 1117 + p * 29 + q * 53 = X
  have hXb : X < 1000000000 := by omega
  have e4 : wrap64 ((X : Int).tdiv 64) = ((X / 64 : Nat) : Int) := by
    rw [show (X : Int).tdiv 64 = ((X / 64 : Nat) : Int) from rfl]
    exact wr_in _ (by omega) (by omega)
  rw [e4, xor_nat X (X / 64) (by omega) (by omega)]
  exact ⟨(X ^^^ X / 64) % N, rfl, Nat.mod_lt _ hN⟩

set_option maxHeartbeats 4000000 in
set_option maxRecDepth 100000 in
theorem pick_c (R p : Nat) (n : Int) (w : World) (hr : Rdr w R p) (hp : p ≤ 1000000) (hn : n ≤ 1048577) :
    Calls Try.prog 47 #[.pointer (some ⟨R, 0, none⟩), .int .i64 n] w (PickPost R p n w) := by
  obtain ⟨A, m, c, hh, hm, hmc, hcm, hby⟩ := hr
  have hc0 : w.cell? ⟨R, 0, none⟩ = some (.slice A m c) := cell_of_row w R 0 _ _ _ hh
  have hc1 : w.cell? ⟨R, 1, none⟩ = some (.int .i64 p) := cell_of_row w R 1 _ _ _ hh
  have hf1 : w.frozen? ⟨R, 1, none⟩ = false := frozen_of_row w R 1 _ _ hh
  have hset : (w.setCell ⟨R, 1, none⟩ (.int .i64 ((p : Int) + 1))).heap[R]? = some (.cells #[.slice A m c, .int .i64 ((p : Int) + 1)] 67 (0, 0)) :=
    heap_setCell_same w R 1 _ _ _ hh
  have hgr : w.grownBy (w.setCell ⟨R, 1, none⟩ (.int .i64 ((p : Int) + 1))) (some R) :=
    ⟨rfl, rfl, rfl, by simp, fun k _ hk => heap_setCell_other w ⟨R, 1, none⟩ k _ (fun e => hk (by simp [e]))⟩
  have hrd : Rdr (w.setCell ⟨R, 1, none⟩ (.int .i64 ((p : Int) + 1))) R (p + 1) := ⟨A, m, c, hset, hm, hmc, hcm, hby.kept hgr⟩
  have HB := hid (And.intro hgr (And.intro hrd hby))
  clear hset hgr hrd hby hh
  by_cases h1 : n < 1
  · go_enter Try.func47, Try.ntmps47
    go_wp2_with fail
    go_ret
    exact ⟨0, rfl, fun h => by omega, fun _ => rfl, HB.out.2.1, HB.out.1⟩
  obtain ⟨N, rfl⟩ : ∃ N : Nat, n = N := ⟨n.toNat, by omega⟩
  by_cases h2 : m = 0
  · subst h2
    go_enter Try.func47, Try.ntmps47
    go_wp2_with fail
    go_ret
    exact ⟨0, rfl, fun h => by omega, fun _ => rfl, HB.out.2.1, HB.out.1⟩
  have b2 : ((m : Int) == 0) = false := by simpa using h2
  obtain ⟨b, o, rfl, hbR', hbl, hbc⟩ := HB.out.2.2 (by omega)
  have hbR := Nat.ne_of_lt hbR'
  by_cases h3 : p < m
  · obtain ⟨x, hx, hcx⟩ := hbc p h3
    have hne : (⟨b, o + p, none⟩ : Addr) ≠ ⟨R, 1, none⟩ := by simp [hbR]
    clear hbc
    go_enter Try.func47, Try.ntmps47
    go_wp2_with fail
    go_ret
    exact ⟨x % N, ret_int (by omega), fun _ => by have := Nat.mod_lt x (show 0 < N by omega); omega, fun h => by omega, HB.out.2.1, HB.out.1⟩
  · have hm0 : 0 < m := by omega
    have i1 := Nat.mod_lt p hm0
    have i2 := Nat.mod_lt (p * 7 + 3) hm0
    obtain ⟨x, hx, hcx⟩ := hbc (p % m) i1
    obtain ⟨y, hy, hcy⟩ := hbc ((p * 7 + 3) % m) i2
    have j1 : 0 ≤ (p : Int) % (m : Int) := Int.emod_nonneg _ (by omega)
    have j2 : (p : Int) % (m : Int) < (m : Int) := Int.emod_lt_of_pos _ (by omega)
    have j3 : ((p : Int) % (m : Int)).toNat = p % m := rfl
    have j4 : 0 ≤ ((p : Int) * 7 + 3) % (m : Int) := Int.emod_nonneg _ (by omega)
    have j5 : ((p : Int) * 7 + 3) % (m : Int) < (m : Int) := Int.emod_lt_of_pos _ (by omega)
    have j6 : (((p : Int) * 7 + 3) % (m : Int)).toNat = (p * 7 + 3) % m := rfl
    clear hbc
    go_enter Try.func47, Try.ntmps47
    go_wp2_with fail
    go_quiet (fail)
    go_wp2_with fail
    go_ret
    obtain ⟨r, hr1, hr2⟩ := pick_val x y p m N hx hy hp (by omega)
    exact ⟨r, ret_int hr1, fun _ => by omega, fun h => by omega, HB.out.2.1, grown_drN HB.out.1 _⟩
end Go.Proofs.Ytfjpfdmlcgkfeaa

/-
  WALKS: names and pairs of names that are drawn.
-/
namespace Go.Proofs.Ytfjpfdmlcgkfeaa
open Go.RowKit Nm
set_option linter.unusedSimpArgs false
set_option linter.unusedVariables false

/-- a drawn text: of at most 'most' bytes; the reader has gone on by at most dp -/
def TxtPost (R p dp most : Nat) (w : World) (e : Ending) (w' : World) : Prop :=
  ∃ (x : ByteArray) (p' : Nat), x.size ≤ most ∧ e = .returned (.string x) ∧ p' ≤ p + dp ∧ Rdr w' R p' ∧ w.grownBy w' (some R)

def OfPost (R p : Nat) (ws : List (List UInt8)) (w : World) (e : Ending) (w' : World) : Prop :=
  ∃ x : ByteArray, x.data.toList ∈ ws ∧ e = .returned (.string x) ∧ Rdr w' R (p + 1) ∧ w.grownBy w' (some R)

set_option maxHeartbeats 1000000 in
set_option maxRecDepth 100000 in
theorem of_c (R p g n c : Nat) (ws : List (List UInt8)) (w : World) (hr : Rdr w R p) (hp : p ≤ 1000000) (hn : n = ws.length) (hn1 : 1 ≤ n) (hn2 : n ≤ 1000) (hgR : g ≠ R) (hg : w.heap[g]? = some (.cells (ws.map txt).toArray 9 (0, 0))) :
    Calls Try.prog 56 #[.pointer (some ⟨R, 0, none⟩), .slice (some ⟨g, 0, none⟩) n c] w (OfPost R p ws w) := by
  have hcall := hid (pick_c R p n w hr hp (by omega))
  have hglt : g < w.heap.size := (Array.getElem?_eq_some_iff.1 hg).1
  have HN := hid (And.intro hn hg)
  clear hn hg
  go_enter Try.func56, Try.ntmps56
  go_wp2_with fail
  refine hcall.out.mono ?_
  rintro e w1 ⟨k, rfl, hk1, hk2, hr1, hg1⟩
  have hkn : k < n := by have := hk1 (by omega); omega
  obtain ⟨hn, hg⟩ := HN.out
  obtain ⟨x, hx1, hx2⟩ := txt_at ws k (by omega)
  have hb1 : w1.heap[g]? = some (.cells (ws.map txt).toArray 9 (0, 0)) := (hg1.block g hglt (by simpa using hgR)).trans hg
  have hc1 : w1.cell? ⟨g, k, none⟩ = some (.string x) := by
    rw [cell_of_row w1 g k _ _ _ hb1]; simpa using hx2
  have HX := hid (List.mem_of_getElem? hx1)
  have HR := hid (And.intro hr1 hg1)
  clear hk1 hk2 hr1 hg1 hn hg hx1 hx2 hb1
  go_wp2_with fail
  go_ret
  exact ⟨x, HX.out, rfl, HR.out.1, HR.out.2⟩

theorem of_small {R p : Nat} {ws : List (List UInt8)} {w w0 w' : World} {e : Ending} {most : Nat} (h : OfPost R p ws w e w') (hw : w0.grownBy w (some R)) (hm : ∀ l ∈ ws, l.length ≤ most) : TxtPost R p 1 most w0 e w' := by
  obtain ⟨x, hx, he, hr, hg⟩ := h
  exact ⟨x, p + 1, by rw [Lib.size_eq]; exact hm _ hx, he, Nat.le_refl _, hr, grown_tr hw hg⟩

def aNames : List (List UInt8) := [[97], [97, 46, 98], [97, 46, 98, 46, 99], [98], [97, 46, 99], [98, 46, 97], [], [97, 46, 98, 46, 99, 46, 100], [99]]
def badNames : List (List UInt8) := [[65], [97, 46], [46, 97], [97, 46, 46, 98], [97, 98, 99, 100, 101], [97, 46, 98, 46, 99, 46, 100, 46, 101], [97, 32, 98], [97, 98, 46, 97]]

set_option maxHeartbeats 1000000 in
set_option maxRecDepth 100000 in
theorem aName_c (R p : Nat) (w : World) (hr : Rdr w R p) (hp : p ≤ 1000000) :
    Calls Try.prog 57 #[.pointer (some ⟨R, 0, none⟩)] w (TxtPost R p 1 12 w) := by
  have hlt := hr.lt
  have HR := hid hr
  clear hr
  go_enter Try.func57, Try.ntmps57
  go_wp2_with fail
  refine (of_c R p w.heap.size 9 9 aNames _ ?_ hp rfl (by omega) (by omega) (by omega) (heap_alloc_new w _)).mono ?_
  · exact HR.out.below ((Below.refl _ _).alloc (Nat.le_refl _) _)
  intro e w1 h1
  have H1 := hid (of_small (most := 12) h1 (World.grownBy_alloc w _ _) (by decide))
  obtain ⟨x, hx, rfl, _, _⟩ := h1
  clear hx
  go_wp2_with fail
  go_ret
  exact H1.out

set_option maxHeartbeats 1000000 in
set_option maxRecDepth 100000 in
theorem anyName_c (R p : Nat) (w : World) (hr : Rdr w R p) (hp : p ≤ 900000) :
    Calls Try.prog 55 #[.pointer (some ⟨R, 0, none⟩)] w (TxtPost R p 2 12 w) := by
  have hcall := hid (pick_c R p 12 w hr (by omega) (by omega))
  clear hr
  go_enter Try.func55, Try.ntmps55
  go_wp2_with fail
  refine hcall.out.mono ?_
  rintro e w1 ⟨k, rfl, _, _, hr1, hg1⟩
  have HR := hid (And.intro hr1 hg1)
  have hlt := hr1.lt
  clear hr1 hg1
  by_cases hk : k = 0
  · subst hk
    go_wp2_with fail
    refine (of_c R (p + 1) w1.heap.size 8 8 badNames _ ?_ (by omega) rfl (by omega) (by omega) (by omega) (heap_alloc_new w1 _)).mono ?_
    · exact HR.out.1.below ((Below.refl _ _).alloc (Nat.le_refl _) _)
    intro e w2 h2
    have H2 := hid (of_small (most := 12) h2 (grown_tr HR.out.2 (World.grownBy_alloc w1 _ _)) (by decide))
    obtain ⟨x, hx, rfl, _, _⟩ := h2
    clear hx
    go_wp2_with fail
    go_ret
    obtain ⟨x', p', h1, h2, h3, h4, h5⟩ := H2.out
    exact ⟨x', p', h1, h2, by omega, h4, h5⟩
  · have b0 : ((k : Int) == 0) = false := by simpa using hk
    have HK := hid hk
    clear hk
    go_wp2_with fail
    refine (aName_c R (p + 1) w1 HR.out.1 (by omega)).mono ?_
    rintro e w2 ⟨x, p', hx, rfl, hp', hr2, hg2⟩
    have H2 := hid (And.intro hr2 hg2)
    clear hr2 hg2
    go_wp2_with fail
    go_ret
    exact ⟨x, p', hx, rfl, by omega, H2.out.1, grown_tr HR.out.2 H2.out.2⟩

/-- a drawn name; nothing that was there has turned -/
def DrawnPost (most : Nat) (w : World) (e : Ending) (w' : World) : Prop := ∃ x : ByteArray, x.size ≤ most ∧ e = .returned (.string x) ∧ Below w.heap.size w w'
def Drawn2Post (most : Nat) (w : World) (e : Ending) (w' : World) : Prop := ∃ x y : ByteArray, x.size ≤ most ∧ y.size ≤ most ∧ e = .returned (.tuple #[.string x, .string y]) ∧ Below w.heap.size w w'
theorem below_own {w w' : World} {R B : Nat} (hg : w.grownBy w' (some R)) (hB : B ≤ w.heap.size) (hR : B ≤ R) : Below B w w' := below_of_grown hg hB (fun k hk => by cases hk; exact hR)

end Go.Proofs.Ytfjpfdmlcgkfeaa

/-
  DRAWS: the reader and what it leaves as it is; numbers, texts out of lists.
-/
namespace Go.Proofs.Ytfjpfdmlcgkfeaa
open Go.RowKit Nm
set_option linter.unusedSimpArgs false
set_option linter.unusedVariables false

theorem Rdr.off {w w' : World} {R p : Nat} {row : Option Nat} (h : Rdr w R p) (hg : w.grownBy w' row) (hb : ∀ g, row = some g → R < g) : Rdr w' R p := by
  obtain ⟨A, m, c, h1, h2, h3, h4, h5⟩ := h
  refine ⟨A, m, c, (hg.block R (Array.getElem?_eq_some_iff.1 h1).1 (fun e => by have := hb R e.symm; omega)).trans h1, h2, h3, h4, fun hn => ?_⟩
  obtain ⟨b, o, e, i1, i2, i3⟩ := h5 hn
  refine ⟨b, o, e, i1, Nat.lt_of_lt_of_le i2 hg.size, fun j hj => ?_⟩
  obtain ⟨x, hx, hc⟩ := i3 j hj
  exact ⟨x, hx, (World.cell?_of_block (hg.block b i2 (fun e => by have := hb b e.symm; omega))).trans hc⟩
theorem grow_cell (w : World) (b j : Nat) (u : Value) : w.grownBy (w.setCell ⟨b, j, none⟩ u) (some b) :=
  ⟨rfl, rfl, rfl, by simp, fun k _ hk => heap_setCell_other w ⟨b, j, none⟩ k _ (fun e => hk (by simp [e]))⟩
theorem Rdr.set {w : World} {R p b j : Nat} {u : Value} (h : Rdr w R p) (hb : R < b) : Rdr (w.setCell ⟨b, j, none⟩ u) R p := h.off (grow_cell w b j u) (fun g e => by cases e; exact hb)
theorem grown_off {w w' w2 : World} {r row : Option Nat} (h : w.grownBy w' r) (hg : w'.grownBy w2 row) (hb : ∀ g, row = some g → w.heap.size ≤ g) : w.grownBy w2 r :=
  ⟨hg.os.trans h.os, hg.tape.trans h.tape, hg.output.trans h.output, Nat.le_trans h.size hg.size, fun k hk hr => (hg.block k (Nat.lt_of_lt_of_le hk h.size) (fun e => by have := hb k e.symm; omega)).trans (h.block k hk hr)⟩
theorem grown_at {w w' : World} {r : Option Nat} (h : w.grownBy w' r) {b j : Nat} {u : Value} (hb : w.heap.size ≤ b) : w.grownBy (w'.setCell ⟨b, j, none⟩ u) r := grown_off h (grow_cell w' b j u) (fun g e => by cases e; exact hb)
theorem grown_new {w w' w2 : World} {r : Option Nat} (h : w.grownBy w' r) (hb : Below w'.heap.size w' w2) : w.grownBy w2 r := grown_tr h (grown_of hb r)
theorem own_off {w w' : World} {R base d n : Nat} {e : TypeId} {v : Value} {xs : List Value} (h : w.ownsRow base e d v n xs) (hg : w.grownBy w' (some R)) (hR : R < base) : w'.ownsRow base e d v n xs :=
  h.kept hg (.inr (fun e2 => by have := (h.lt R e2).1; omega))

def intv (z : Int) : Value := .int .i64 z
def OnePost (R p : Nat) (zs : List Int) (w : World) (e : Ending) (w' : World) : Prop :=
  ∃ z : Int, z ∈ zs ∧ e = .returned (.int .i64 z) ∧ Rdr w' R (p + 1) ∧ w.grownBy w' (some R)
theorem int_at (zs : List Int) (k : Nat) (hk : k < zs.length) : ∃ z, zs[k]? = some z ∧ (zs.map intv)[k]? = some (.int .i64 z) :=
  ⟨zs[k], List.getElem?_eq_getElem hk, by rw [List.getElem?_map, List.getElem?_eq_getElem hk]; rfl⟩

set_option maxHeartbeats 1000000 in
set_option maxRecDepth 100000 in
theorem one_c (R p g n c : Nat) (zs : List Int) (w : World) (hr : Rdr w R p) (hp : p ≤ 1000000) (hn : n = zs.length) (hn1 : 1 ≤ n) (hn2 : n ≤ 1000) (hgR : g ≠ R) (hg : w.heap[g]? = some (.cells (zs.map intv).toArray 3 (0, 0))) :
    Calls Try.prog 45 #[.pointer (some ⟨R, 0, none⟩), .slice (some ⟨g, 0, none⟩) n c] w (OnePost R p zs w) := by
  have hcall := hid (pick_c R p n w hr hp (by omega))
  have hglt : g < w.heap.size := (Array.getElem?_eq_some_iff.1 hg).1
  have HN := hid (And.intro hn hg)
  clear hn hg
  go_enter Try.func45, Try.ntmps45
  go_wp2_with fail
  refine hcall.out.mono ?_
  rintro e w1 ⟨k, rfl, hk1, hk2, hr1, hg1⟩
  have hkn : k < n := by have := hk1 (by omega); omega
  obtain ⟨hn, hg⟩ := HN.out
  obtain ⟨x, hx1, hx2⟩ := int_at zs k (by omega)
  have hb1 : w1.heap[g]? = some (.cells (zs.map intv).toArray 3 (0, 0)) := (hg1.block g hglt (by simpa using hgR)).trans hg
  have hc1 : w1.cell? ⟨g, k, none⟩ = some (.int .i64 x) := by
    rw [cell_of_row w1 g k _ _ _ hb1]; simpa using hx2
  have HX := hid (List.mem_of_getElem? hx1)
  have HR := hid (And.intro hr1 hg1)
  clear hk1 hk2 hr1 hg1 hn hg hx1 hx2 hb1
  go_wp2_with fail
  go_ret
  exact ⟨x, HX.out, rfl, HR.out.1, HR.out.2⟩
/-- a number out of a list that was just laid down -/
theorem one_lit (R p n : Nat) (zs : List Int) (w : World) (hr : Rdr w R p) (hp : p ≤ 1000000) (hn : n = zs.length) (hn1 : 1 ≤ n) (hn2 : n ≤ 1000) (lo hi : Int) (hz : ∀ z ∈ zs, lo ≤ z ∧ z ≤ hi) :
    Calls Try.prog 45 #[.pointer (some ⟨R, 0, none⟩), .slice (some ⟨w.heap.size, 0, none⟩) n n] (w.alloc (.cells (zs.map intv).toArray 3)) fun e w' =>
      ∃ z : Int, (lo ≤ z ∧ z ≤ hi) ∧ e = .returned (.int .i64 z) ∧ Rdr w' R (p + 1) ∧ w.grownBy w' (some R) := by
  have hlt := hr.lt
  refine (one_c R p w.heap.size n n zs _ (hr.below ((Below.refl _ _).alloc (Nat.le_refl _) _)) hp hn hn1 hn2 (by omega) (heap_alloc_new w _)).mono ?_
  rintro e w' ⟨z, h1, h2, h3, h4⟩
  exact ⟨z, hz z h1, h2, h3, grown_tr (World.grownBy_alloc w _ _) h4⟩
/-- a text out of a list that was just laid down -/
theorem of_lit (R p n most : Nat) (ws : List (List UInt8)) (w : World) (hr : Rdr w R p) (hp : p ≤ 1000000) (hn : n = ws.length) (hn1 : 1 ≤ n) (hn2 : n ≤ 1000) (hm : ∀ l ∈ ws, l.length ≤ most) :
    Calls Try.prog 56 #[.pointer (some ⟨R, 0, none⟩), .slice (some ⟨w.heap.size, 0, none⟩) n n] (w.alloc (.cells (ws.map txt).toArray 9)) (TxtPost R p 1 most w) := by
  have hlt := hr.lt
  refine (of_c R p w.heap.size n n ws _ (hr.below ((Below.refl _ _).alloc (Nat.le_refl _) _)) hp hn hn1 hn2 (by omega) (heap_alloc_new w _)).mono ?_
  intro e w' h
  exact of_small h (World.grownBy_alloc w _ _) hm

theorem Rdr.low {w w' : World} {R p B : Nat} (h : Rdr w R p) (hb : Below B w w') (hR : R < B) : Rdr w' R p := by
  obtain ⟨A, m, c, h1, h2, h3, h4, h5⟩ := h
  refine ⟨A, m, c, (hb.block R hR).trans h1, h2, h3, h4, fun hn => ?_⟩
  obtain ⟨b, o, e, i1, i2, i3⟩ := h5 hn
  refine ⟨b, o, e, i1, Nat.lt_of_lt_of_le i2 hb.size, fun j hj => ?_⟩
  obtain ⟨x, hx, hc⟩ := i3 j hj
  exact ⟨x, hx, (hb.cell (p := ⟨b, o + j, none⟩) (by show b < B; omega)).trans hc⟩
theorem grown_low {w w1 w2 : World} {r : Option Nat} (h : w.grownBy w1 r) (hb : Below w.heap.size w1 w2) : w.grownBy w2 r :=
  ⟨hb.os.trans h.os, hb.tape.trans h.tape, hb.output.trans h.output, Nat.le_trans h.size hb.size, fun k hk hr => (hb.block k hk).trans (h.block k hk hr)⟩
theorem own_cellset {w : World} {base d n c g b j : Nat} {e : TypeId} {xs : List Value} {u : Value} (h : w.ownsRow base e d (.slice (some ⟨g, 0, none⟩) n c) n xs) (hne : g ≠ b) : (w.setCell ⟨b, j, none⟩ u).ownsRow base e d (.slice (some ⟨g, 0, none⟩) n c) n xs :=
  h.kept (grow_cell w b j u) (.inr (fun e2 => hne (Option.some.inj e2)))
end Go.Proofs.Ytfjpfdmlcgkfeaa

/-
  DRAWS: texts, records.
-/
namespace Go.Proofs.Ytfjpfdmlcgkfeaa
open Go.RowKit Nm
set_option linter.unusedSimpArgs false
set_option linter.unusedVariables false

def texts7 : List (List UInt8) := [[120], [110, 111], [120, 32, 121], [], [97, 108, 108, 32, 105, 115, 32, 119, 101, 108, 108], [110, 111, 32, 120], [103, 111, 32, 111, 110]]
set_option maxHeartbeats 1000000 in
set_option maxRecDepth 100000 in
theorem aText_c (R p : Nat) (w : World) (hr : Rdr w R p) (hp : p ≤ 1000000) :
    Calls Try.prog 58 #[.pointer (some ⟨R, 0, none⟩)] w (TxtPost R p 1 20 w) := by
  have C := hid (of_lit R p 7 20 texts7 w hr hp rfl (by omega) (by omega) (by decide))
  clear hr
  go_enter Try.func58, Try.ntmps58
  go_wp2_with fail
  refine C.out.mono ?_
  rintro e w1 ⟨x, p1, h1, rfl, h2, h3, h4⟩
  have H := hid (And.intro h3 h4)
  clear h3 h4
  go_wp2_with fail
  go_ret
  exact ⟨x, p1, h1, rfl, h2, H.out.1, H.out.2⟩

/-- a drawn record -/
def RecPost (R p dp : Nat) (w : World) (e : Ending) (w' : World) : Prop :=
  ∃ (nm tx : ByteArray) (lv sq : Int) (p' : Nat), (nm.size ≤ 20 ∧ tx.size ≤ 20) ∧ (-1000 ≤ lv ∧ lv ≤ 1000) ∧ (-1000 ≤ sq ∧ sq ≤ 1000) ∧ e = .returned (.agg #[.string nm, .int .i64 lv, .string tx, .int .i64 sq]) ∧ p' ≤ p + dp ∧ Rdr w' R p' ∧ w.grownBy w' (some R)

set_option maxHeartbeats 2000000 in
set_option maxRecDepth 100000 in
theorem aRecord_c (R p : Nat) (w : World) (hr : Rdr w R p) (hp : p ≤ 900000) :
    Calls Try.prog 49 #[.pointer (some ⟨R, 0, none⟩)] w (RecPost R p 4 w) := by
  have hlt := hr.lt
  have K0 := hid (Blk.new w #[.string ByteArray.empty, .int .i64 0, .string ByteArray.empty, .int .i64 0] 46)
  have C := hid (aName_c R p _ (hr.below ((Below.refl _ _).alloc (Nat.le_refl _) (.cells #[.string ByteArray.empty, .int .i64 0, .string ByteArray.empty, .int .i64 0] 46))) (by omega))
  clear hr
  go_enter Try.func49, Try.ntmps49
  go_wp2_with fail
  refine C.out.mono ?_
  rintro e w1 ⟨nm, p1, hnm, rfl, hp1, hr1, hg1⟩
  have G1 := hid (grown_tr (World.grownBy_alloc w _ _) hg1)
  have K1 := hid (K0.out.kept hg1 (by simp; omega))
  have C2 := hid (one_lit R p1 8 [20, 30, 10, 40, 50, 15, 1, 60] w1 hr1 (by omega) rfl (by omega) (by omega) 0 60 (by decide))
  clear hr1 hg1 C
  go_wp2_with fail
  refine C2.out.mono ?_
  rintro e w2 ⟨lv, hlv, rfl, hr2, hg2⟩
  have G2 := hid (grown_tr G1.out hg2)
  have K2 := hid (K1.out.kept hg2 (by simp; omega))
  have C3 := hid (aText_c R (p1 + 1) w2 hr2 (by omega))
  clear hr2 hg2 C2 K0 K1 G1
  go_wp2_with fail
  refine C3.out.mono ?_
  rintro e w3 ⟨tx, p3, htx, rfl, hp3, hr3, hg3⟩
  have G3 := hid (grown_tr G2.out hg3)
  have K3 := hid (K2.out.kept hg3 (by simp; omega))
  have C4 := hid (pick_c R p3 10 w3 hr3 (by omega) (by omega))
  clear hr3 hg3 C3 K2 G2
  go_wp2_with fail
  refine C4.out.mono ?_
  rintro e w4 ⟨k, rfl, hk1, hk2, hr4, hg4⟩
  have hk : (k : Int) < 10 := hk1 (by omega)
  have G4 := hid (grown_tr G3.out hg4)
  have K4 := K3.out.kept hg4 (by simp; omega)
  have R4 := hid hr4
  obtain ⟨k0, g0⟩ := K4.2 0 _ rfl
  obtain ⟨k1, g1⟩ := K4.2 1 _ rfl
  obtain ⟨k2, g2⟩ := K4.2 2 _ rfl
  obtain ⟨k3, g3⟩ := K4.2 3 _ rfl
  clear hr4 hg4 C4 K3 G3 hk1 hk2
  go_wp2_with fail
  have RB := (((K4.set 0 (.string nm)).set 1 (.int .i64 lv)).set 2 (.string tx)).set 3 (.int .i64 (k : Int))
  have f0 := (RB.2 0 _ rfl).1
  have f1 := (RB.2 1 _ rfl).1
  have f2 := (RB.2 2 _ rfl).1
  have f3 := (RB.2 3 _ rfl).1
  refine bodyPost_ret (v := .agg #[.string nm, .int .i64 lv, .string tx, .int .i64 (k : Int)]) (by simp [results, Try.results49, go_sem, f0, f1, f2, f3]) rfl ?_
  refine ⟨nm, tx, lv, k, p3 + 1, ⟨by omega, htx⟩, by omega, by omega, rfl, by omega, ?_, ?_⟩
  · exact (((R4.out.set hlt).set hlt).set hlt).set hlt
  · exact grown_at (grown_at (grown_at (grown_at G4.out (Nat.le_refl _)) (Nat.le_refl _)) (Nat.le_refl _)) (Nat.le_refl _)
end Go.Proofs.Ytfjpfdmlcgkfeaa

/-
  DRAWS: records that may be invalid, lists of records. By gen_d2.py.
-/
namespace Go.Proofs.Ytfjpfdmlcgkfeaa
open Go.RowKit Nm
set_option linter.unusedSimpArgs false
set_option linter.unusedVariables false

def texts2 : List (List UInt8) := [[65], [97, 32, 109, 117, 99, 104, 32, 108, 111, 110, 103, 101, 114, 32, 116, 101, 120, 116]]
set_option maxHeartbeats 4000000 in
set_option maxRecDepth 100000 in
theorem someRecord_c (R p : Nat) (w : World) (hr : Rdr w R p) (hp : p ≤ 800000) :
    Calls Try.prog 48 #[.pointer (some ⟨R, 0, none⟩)] w (RecPost R p 7 w) := by
  have hlt := hr.lt
  have K0 := hid (Blk.new w #[.string ByteArray.empty, .int .i64 0, .string ByteArray.empty, .int .i64 0] 46)
  have C := hid (aRecord_c R p _ (hr.below ((Below.refl _ _).alloc (Nat.le_refl _) (.cells #[.string ByteArray.empty, .int .i64 0, .string ByteArray.empty, .int .i64 0] 46))) (by omega))
  clear hr
  go_enter Try.func48, Try.ntmps48
  go_wp2_with fail
  refine C.out.mono ?_
  rintro e w1 ⟨nm, tx, lv, sq, p1, ⟨hnm, htx⟩, ⟨hl0, hl1⟩, ⟨hs0, hs1⟩, rfl, hp1, hr1, hg1⟩
  have hlt1 : w.heap.size < w1.heap.size := by have := hg1.size; simp at this; omega
  have G1 := grown_tr (World.grownBy_alloc w _ _) hg1
  have K1 := K0.out.kept hg1 (by simp; omega)
  have G2 := hid (grown_new G1 ((Below.refl w1.heap.size w1).alloc (Nat.le_refl _) (.cells #[.string nm, .int .i64 lv, .string tx, .int .i64 sq] 46)))
  have K2 := hid (K1.alloc (.cells #[.string nm, .int .i64 lv, .string tx, .int .i64 sq] 46))
  have B2 := hid (Blk.new w1 #[.string nm, .int .i64 lv, .string tx, .int .i64 sq] 46)
  have C2 := hid (pick_c R p1 40 _ (hr1.below ((Below.refl _ _).alloc (Nat.le_refl _) (.cells #[.string nm, .int .i64 lv, .string tx, .int .i64 sq] 46))) (by omega) (by omega))
  have hne : w1.heap.size ≠ w.heap.size := by omega
  have hRne : R ≠ w1.heap.size := by omega
  clear hr1 hg1 C G1 K1 K0
  go_wp2_with fail
  generalize hb1 : w1.heap.size = b1 at *
  refine C2.out.mono ?_
  rintro e w3 ⟨k, rfl, hk1, hk2, hr3, hg3⟩
  have hk : k < 40 := by have := hk1 (by omega); omega
  have G3 := hid (grown_tr G2.out hg3)
  have K3 := hid (K2.out.kept hg3 (by simp; omega))
  have B3 := hid (B2.out.kept hg3 (by simp; omega))
  have R3 := hid hr3
  have hb3 := B3.out.1
  clear hr3 hg3 C2 K2 B2 G2 hk1 hk2 hb1
  rcases (show k = 0 ∨ k = 1 ∨ k = 2 ∨ k = 3 ∨ 4 ≤ k by omega) with rfl | rfl | rfl | rfl | hk4
  · have C3 := hid (anyName_c R (p1 + 1) w3 R3.out (by omega))
    go_wp2_with fail
    refine C3.out.mono ?_
    rintro e w4 ⟨x, p4, hx, rfl, hp4, hr4, hg4⟩
    have G4 := hid (grown_tr G3.out hg4)
    have R4 := hid hr4
    have B4 := hid (B3.out.kept hg4 (by simp; omega))
    have K4 := hid (K3.out.kept hg4 (by simp; omega))
    clear hr4 hg4 C3 G3 R3 B3 K3
    have KB := B4.out
    have K0 := K4.out
    obtain ⟨k0, g0⟩ := KB.2 0 _ rfl
    obtain ⟨k1, g1⟩ := KB.2 1 _ rfl
    obtain ⟨k2, g2⟩ := KB.2 2 _ rfl
    obtain ⟨k3, g3⟩ := KB.2 3 _ rfl
    obtain ⟨l0, h0⟩ := K0.2 0 _ rfl
    obtain ⟨l1, h1⟩ := K0.2 1 _ rfl
    obtain ⟨l2, h2⟩ := K0.2 2 _ rfl
    obtain ⟨l3, h3⟩ := K0.2 3 _ rfl
    go_wp2_with fail
    have RB := (((((K0.apart ⟨b1, 0, none⟩ (.string x) (by exact hne)).set 0 (.string x)).set 1 (.int .i64 lv)).set 2 (.string tx)).set 3 (.int .i64 sq))
    have f0 := (RB.2 0 _ rfl).1
    have f1 := (RB.2 1 _ rfl).1
    have f2 := (RB.2 2 _ rfl).1
    have f3 := (RB.2 3 _ rfl).1
    refine bodyPost_ret (v := .agg #[.string x, .int .i64 lv, .string tx, .int .i64 sq]) (by simp [results, Try.results48, go_sem, f0, f1, f2, f3]) rfl ?_
    refine ⟨x, tx, lv, sq, p4, ⟨by omega, by omega⟩, ⟨by omega, by omega⟩, ⟨by omega, by omega⟩, rfl, by omega, (((((R4.out.set (b := b1) (by omega)).set hlt).set hlt).set hlt).set hlt), (grown_at (grown_at (grown_at (grown_at (grown_at (b := b1) G4.out (by omega)) (Nat.le_refl _)) (Nat.le_refl _)) (Nat.le_refl _)) (Nat.le_refl _))⟩
  · have C3 := hid (one_lit R (p1 + 1) 2 [0, 61] w3 R3.out (by omega) rfl (by omega) (by omega) 0 61 (by decide))
    go_wp2_with fail
    refine C3.out.mono ?_
    rintro e w4 ⟨x, hx, rfl, hr4, hg4⟩
    have G4 := hid (grown_tr G3.out hg4)
    have R4 := hid hr4
    have B4 := hid (B3.out.kept hg4 (by simp; omega))
    have K4 := hid (K3.out.kept hg4 (by simp; omega))
    clear hr4 hg4 C3 G3 R3 B3 K3
    have KB := B4.out
    have K0 := K4.out
    obtain ⟨k0, g0⟩ := KB.2 0 _ rfl
    obtain ⟨k1, g1⟩ := KB.2 1 _ rfl
    obtain ⟨k2, g2⟩ := KB.2 2 _ rfl
    obtain ⟨k3, g3⟩ := KB.2 3 _ rfl
    obtain ⟨l0, h0⟩ := K0.2 0 _ rfl
    obtain ⟨l1, h1⟩ := K0.2 1 _ rfl
    obtain ⟨l2, h2⟩ := K0.2 2 _ rfl
    obtain ⟨l3, h3⟩ := K0.2 3 _ rfl
    go_wp2_with fail
    have RB := (((((K0.apart ⟨b1, 1, none⟩ (.int .i64 x) (by exact hne)).set 0 (.string nm)).set 1 (.int .i64 x)).set 2 (.string tx)).set 3 (.int .i64 sq))
    have f0 := (RB.2 0 _ rfl).1
    have f1 := (RB.2 1 _ rfl).1
    have f2 := (RB.2 2 _ rfl).1
    have f3 := (RB.2 3 _ rfl).1
    refine bodyPost_ret (v := .agg #[.string nm, .int .i64 x, .string tx, .int .i64 sq]) (by simp [results, Try.results48, go_sem, f0, f1, f2, f3]) rfl ?_
    refine ⟨nm, tx, x, sq, p1 + 1 + 1, ⟨by omega, by omega⟩, ⟨by omega, by omega⟩, ⟨by omega, by omega⟩, rfl, by omega, (((((R4.out.set (b := b1) (by omega)).set hlt).set hlt).set hlt).set hlt), (grown_at (grown_at (grown_at (grown_at (grown_at (b := b1) G4.out (by omega)) (Nat.le_refl _)) (Nat.le_refl _)) (Nat.le_refl _)) (Nat.le_refl _))⟩
  · have C3 := hid (of_lit R (p1 + 1) 2 20 texts2 w3 R3.out (by omega) rfl (by omega) (by omega) (by decide))
    go_wp2_with fail
    refine C3.out.mono ?_
    rintro e w4 ⟨x, p4, hx, rfl, hp4, hr4, hg4⟩
    have G4 := hid (grown_tr G3.out hg4)
    have R4 := hid hr4
    have B4 := hid (B3.out.kept hg4 (by simp; omega))
    have K4 := hid (K3.out.kept hg4 (by simp; omega))
    clear hr4 hg4 C3 G3 R3 B3 K3
    have KB := B4.out
    have K0 := K4.out
    obtain ⟨k0, g0⟩ := KB.2 0 _ rfl
    obtain ⟨k1, g1⟩ := KB.2 1 _ rfl
    obtain ⟨k2, g2⟩ := KB.2 2 _ rfl
    obtain ⟨k3, g3⟩ := KB.2 3 _ rfl
    obtain ⟨l0, h0⟩ := K0.2 0 _ rfl
    obtain ⟨l1, h1⟩ := K0.2 1 _ rfl
    obtain ⟨l2, h2⟩ := K0.2 2 _ rfl
    obtain ⟨l3, h3⟩ := K0.2 3 _ rfl
    go_wp2_with fail
    have RB := (((((K0.apart ⟨b1, 2, none⟩ (.string x) (by exact hne)).set 0 (.string nm)).set 1 (.int .i64 lv)).set 2 (.string x)).set 3 (.int .i64 sq))
    have f0 := (RB.2 0 _ rfl).1
    have f1 := (RB.2 1 _ rfl).1
    have f2 := (RB.2 2 _ rfl).1
    have f3 := (RB.2 3 _ rfl).1
    refine bodyPost_ret (v := .agg #[.string nm, .int .i64 lv, .string x, .int .i64 sq]) (by simp [results, Try.results48, go_sem, f0, f1, f2, f3]) rfl ?_
    refine ⟨nm, x, lv, sq, p4, ⟨by omega, by omega⟩, ⟨by omega, by omega⟩, ⟨by omega, by omega⟩, rfl, by omega, (((((R4.out.set (b := b1) (by omega)).set hlt).set hlt).set hlt).set hlt), (grown_at (grown_at (grown_at (grown_at (grown_at (b := b1) G4.out (by omega)) (Nat.le_refl _)) (Nat.le_refl _)) (Nat.le_refl _)) (Nat.le_refl _))⟩
  · have C3 := hid (one_lit R (p1 + 1) 3 [-1, 1000, 999] w3 R3.out (by omega) rfl (by omega) (by omega) (-1) 1000 (by decide))
    go_wp2_with fail
    refine C3.out.mono ?_
    rintro e w4 ⟨x, hx, rfl, hr4, hg4⟩
    have G4 := hid (grown_tr G3.out hg4)
    have R4 := hid hr4
    have B4 := hid (B3.out.kept hg4 (by simp; omega))
    have K4 := hid (K3.out.kept hg4 (by simp; omega))
    clear hr4 hg4 C3 G3 R3 B3 K3
    have KB := B4.out
    have K0 := K4.out
    obtain ⟨k0, g0⟩ := KB.2 0 _ rfl
    obtain ⟨k1, g1⟩ := KB.2 1 _ rfl
    obtain ⟨k2, g2⟩ := KB.2 2 _ rfl
    obtain ⟨k3, g3⟩ := KB.2 3 _ rfl
    obtain ⟨l0, h0⟩ := K0.2 0 _ rfl
    obtain ⟨l1, h1⟩ := K0.2 1 _ rfl
    obtain ⟨l2, h2⟩ := K0.2 2 _ rfl
    obtain ⟨l3, h3⟩ := K0.2 3 _ rfl
    go_wp2_with fail
    have RB := (((((K0.apart ⟨b1, 3, none⟩ (.int .i64 x) (by exact hne)).set 0 (.string nm)).set 1 (.int .i64 lv)).set 2 (.string tx)).set 3 (.int .i64 x))
    have f0 := (RB.2 0 _ rfl).1
    have f1 := (RB.2 1 _ rfl).1
    have f2 := (RB.2 2 _ rfl).1
    have f3 := (RB.2 3 _ rfl).1
    refine bodyPost_ret (v := .agg #[.string nm, .int .i64 lv, .string tx, .int .i64 x]) (by simp [results, Try.results48, go_sem, f0, f1, f2, f3]) rfl ?_
    refine ⟨nm, tx, lv, x, p1 + 1 + 1, ⟨by omega, by omega⟩, ⟨by omega, by omega⟩, ⟨by omega, by omega⟩, rfl, by omega, (((((R4.out.set (b := b1) (by omega)).set hlt).set hlt).set hlt).set hlt), (grown_at (grown_at (grown_at (grown_at (grown_at (b := b1) G4.out (by omega)) (Nat.le_refl _)) (Nat.le_refl _)) (Nat.le_refl _)) (Nat.le_refl _))⟩
  · have q0 : ((k : Int) == 0) = false := by simp; omega
    have q1 : ((k : Int) == 1) = false := by simp; omega
    have q2 : ((k : Int) == 2) = false := by simp; omega
    have q3 : ((k : Int) == 3) = false := by simp; omega
    clear hk hk4
    have KB := B3.out
    have K0 := K3.out
    obtain ⟨k0, g0⟩ := KB.2 0 _ rfl
    obtain ⟨k1, g1⟩ := KB.2 1 _ rfl
    obtain ⟨k2, g2⟩ := KB.2 2 _ rfl
    obtain ⟨k3, g3⟩ := KB.2 3 _ rfl
    obtain ⟨l0, h0⟩ := K0.2 0 _ rfl
    obtain ⟨l1, h1⟩ := K0.2 1 _ rfl
    obtain ⟨l2, h2⟩ := K0.2 2 _ rfl
    obtain ⟨l3, h3⟩ := K0.2 3 _ rfl
    go_wp2_with fail
    have RB := ((((K0.set 0 (.string nm)).set 1 (.int .i64 lv)).set 2 (.string tx)).set 3 (.int .i64 sq))
    have f0 := (RB.2 0 _ rfl).1
    have f1 := (RB.2 1 _ rfl).1
    have f2 := (RB.2 2 _ rfl).1
    have f3 := (RB.2 3 _ rfl).1
    refine bodyPost_ret (v := .agg #[.string nm, .int .i64 lv, .string tx, .int .i64 sq]) (by simp [results, Try.results48, go_sem, f0, f1, f2, f3]) rfl ?_
    refine ⟨nm, tx, lv, sq, p1 + 1, ⟨by omega, by omega⟩, ⟨by omega, by omega⟩, ⟨by omega, by omega⟩, rfl, by omega, ((((R3.out.set hlt).set hlt).set hlt).set hlt), (grown_at (grown_at (grown_at (grown_at G3.out (Nat.le_refl _)) (Nat.le_refl _)) (Nat.le_refl _)) (Nat.le_refl _))⟩
end Go.Proofs.Ytfjpfdmlcgkfeaa

/-
  DRAWS: lists of records. By gen_d2.py.
-/
namespace Go.Proofs.Ytfjpfdmlcgkfeaa
open Go.RowKit Nm
set_option linter.unusedSimpArgs false
set_option linter.unusedVariables false

/-- drawn records: at most m, laid in memory of their own -/
def RecsPost (R p dp m : Nat) (w : World) (e : Ending) (w' : World) : Prop :=
  ∃ (v : Value) (l : List Rec) (p' : Nat), e = .returned v ∧ l.length ≤ m ∧ (∀ x ∈ l, x.nm.length ≤ 20 ∧ x.tx.length ≤ 20) ∧ w'.ownsRow w.heap.size 46 4 v l.length (l.flatMap rcells) ∧ p' ≤ p + dp ∧ Rdr w' R p' ∧ w.grownBy w' (some R)
theorem fit_add {l : List Rec} {x : Rec} (h : ∀ x ∈ l, x.nm.length ≤ 20 ∧ x.tx.length ≤ 20) (hx : x.nm.length ≤ 20 ∧ x.tx.length ≤ 20) : ∀ y ∈ l ++ [x], y.nm.length ≤ 20 ∧ y.tx.length ≤ 20 := by
  intro y hy
  rcases List.mem_append.1 hy with hy | hy
  · exact h y hy
  · rw [List.mem_singleton.1 hy]; exact hx

set_option maxHeartbeats 4000000 in
set_option maxRecDepth 100000 in
theorem goodRecords_c (R p : Nat) (w : World) (hr : Rdr w R p) (hp : p ≤ 700000) :
    Calls Try.prog 46 #[.pointer (some ⟨R, 0, none⟩)] w (RecsPost R p 120 12 w) := by
  have hlt := hr.lt
  have HL := hid (World.ownsRow_lit w #[] 0 (Nat.le_refl _) (by unfold maxLen; omega) (by simp) : (w.alloc (.cells #[] 46)).ownsRow w.heap.size 46 4 (.slice (some ⟨w.heap.size, 0, none⟩) 0 0) 0 [])
  have C := hid (one_lit R p 8 [3, 4, 2, 5, 1, 0, 8, 12] (w.alloc (.cells #[] 46)) (hr.below ((Below.refl _ _).alloc (Nat.le_refl _) _)) (by omega) rfl (by omega) (by omega) 0 12 (by decide))
  simp only [World.size_alloc] at C
  have G0 := hid (show w.grownBy (w.alloc (.cells #[] 46)) (some R) from World.grownBy_alloc w _ _)
  clear hr
  go_enter Try.func46, Try.ntmps46
  go_wp2_with fail
  refine C.out.mono ?_
  rintro e w1 ⟨n, ⟨hn0, hn1⟩, rfl, hr1, hg1⟩
  have G1 := hid (grown_tr G0.out hg1)
  have O1 := hid (own_off HL.out hg1 hlt)
  have R1 := hid hr1
  have hs1 : w.heap.size < w1.heap.size := by have := hg1.size; simp at this; omega
  generalize hbase : w.heap.size = base at *
  replace hbase := hid hbase
  clear hr1 hg1 C HL G0
  go_wp2_with fail
  go_loopw [3, 4] (fun av nv wr => ∃ (v : Value) (q : Int) (l : List Rec) (p' : Nat), av = v ∧ nv = .int .i64 q ∧ 0 ≤ q ∧ (l.length : Int) + q ≤ 12 ∧ p' ≤ p + 1 + 7 * l.length ∧ Hid (∀ x ∈ l, x.nm.length ≤ 20 ∧ x.tx.length ≤ 20) ∧ Hid (wr.ownsRow base 46 4 v l.length (l.flatMap rcells)) ∧ Hid (Rdr wr R p') ∧ Hid (w.grownBy wr (some R)) ∧ base < wr.heap.size) (fun _ nv _ => (intOf nv).toNat)
  case atStart => exact ⟨_, n, [], p + 1, rfl, rfl, hn0, by simpa using hn1, by simp, (fun x hx => by cases hx), O1.out, R1.out, G1.out, hs1⟩
  case round =>
    obtain ⟨v, q, l, p', rfl, rfl, hq0, hq1, hp', HF, HO, HR, HG, hsz⟩ := hrel
    obtain ⟨A, c, rfl, hnc, hcm⟩ := (Sl.of_own HO.out).form
    unfold maxLen at hcm
    generalize hln : l.length = ln at *
    replace hln := hid hln
    by_cases hq : 0 < q
    · have C1 := hid (aRecord_c R p' wr HR.out (by omega))
      go_wp2_with fail
      refine C1.out.mono ?_
      rintro e w2 ⟨nm, tx, lv, sq, p2, ⟨hnm, htx⟩, ⟨hl0, hl1⟩, ⟨hs0, hs1⟩, rfl, hp2, hr2, hg2⟩
      have G2 := hid (grown_new (grown_tr HG.out hg2) ((Below.refl w2.heap.size w2).alloc (Nat.le_refl _) (.cells #[.string nm, .int .i64 lv, .string tx, .int .i64 sq] 46)))
      have O2 := hid ((own_off HO.out hg2 (by omega)).alloc (.cells #[.string nm, .int .i64 lv, .string tx, .int .i64 sq] 46))
      have B2 := hid (Blk.new w2 #[.string nm, .int .i64 lv, .string tx, .int .i64 sq] 46)
      have R2 := hid (hr2.below ((Below.refl _ _).alloc (Nat.le_refl _) (.cells #[.string nm, .int .i64 lv, .string tx, .int .i64 sq] 46)))
      have hsz2 : wr.heap.size ≤ w2.heap.size := hg2.size
      have HLT := hid (fun g h => (HO.out.lt g h).2)
      clear hr2 hg2 C1 HO HR HG
      rcases Nat.eq_zero_or_pos ln with hz | hz
      · subst hz
        have KB := B2.out
        obtain ⟨k0, _⟩ := KB.2 0 _ rfl
        obtain ⟨k1, _⟩ := KB.2 1 _ rfl
        obtain ⟨k2, _⟩ := KB.2 2 _ rfl
        obtain ⟨k3, _⟩ := KB.2 3 _ rfl
        have HOx := hid (show World.ownsRow _ base 46 4 _ l.length (l.flatMap rcells) from by rw [hln.out]; exact O2.out)
        have hlx : l.length ≤ 1048576 := by rw [hln.out]; omega
        go_wp2_with (at_builtin; refine appRecord _ rfl (.tmp 33) (.tmp 35) rfl base _ l (by rfl) HOx.out nm lv tx sq _ _ _ (by rfl) (by simp) hlx (by first | omega | (simp; omega)) ?_)
        intro v5 w5 ho5 hb5
        have HO5 := hid ho5
        have HR5 := hid (Rdr.low R2.out hb5 hlt)
        have HG5 := hid (show w.grownBy w5 (some R) from grown_low G2.out (by rw [hbase.out]; exact hb5))
        have hs5 : base < w5.heap.size := Nat.lt_of_lt_of_le (by first | omega | (simp; omega)) hb5.size
        clear ho5 hb5
        go_wp2_with fail
        go_roundw
        case rel => exact ⟨_, q - 1, l ++ [(⟨nm.data.toList, lv, tx.data.toList, sq⟩ : Rec)], p2, rfl, by go_num, by omega, by rw [List.length_append, hln.out]; simp; omega, by rw [List.length_append, hln.out]; simp; omega, fit_add HF.out (by rw [← Lib.size_eq, ← Lib.size_eq]; exact ⟨hnm, htx⟩), (by show World.ownsRow _ _ _ _ _ _ _; simpa using HO5.out), HR5.out, HG5.out, hs5⟩
        case measure => simp [intOf]; omega
      · have hzi : decide ((0 : Int) < (ln : Int)) = true := by simp; omega
        go_wp2_with fail
        have hw3 : w2.heap.size < (w2.alloc (.cells #[.string nm, .int .i64 lv, .string tx, .int .i64 sq] 46)).heap.size := by simp
        generalize hb1 : w2.heap.size = b1 at *
        have hbb : base < b1 := by omega
        generalize w2.alloc (.cells #[.string nm, .int .i64 lv, .string tx, .int .i64 sq] 46) = w3 at *
        clear hb1
        have C3 := hid (pick_c R p2 4 w3 R2.out (by omega) (by omega))
        refine C3.out.mono ?_
        rintro e w4 ⟨k, rfl, hk1, hk2, hr4, hg4⟩
        have hk4 : k < 4 := by have := hk1 (by omega); omega
        have G4 := hid (grown_tr G2.out hg4)
        have O4 := hid (own_off O2.out hg4 (by omega))
        have B4 := hid (B2.out.kept hg4 (by simp; omega))
        have R4 := hid hr4
        have hsz4 : w3.heap.size ≤ w4.heap.size := hg4.size
        clear hr4 hg4 hk1 hk2 C3 R2 G2 O2 B2
        rcases Nat.eq_zero_or_pos k with hk0 | hk0
        · subst hk0
          obtain ⟨g, rfl, hglt⟩ := own_some O4.out (by omega)
          obtain ⟨x, hx⟩ : ∃ x, l[ln - 1]? = some x := ⟨_, List.getElem?_eq_getElem (by rw [hln.out]; omega)⟩
          obtain ⟨xn, xl, xt, xs⟩ := x
          have hfx := HF.out _ (List.mem_of_getElem? hx)
          have at_ : ∀ j, j < 4 → (l.flatMap rcells)[(ln - 1) * 4 + j]? = (rcells ⟨xn, xl, xt, xs⟩)[j]? := fun j hj => flat_get rcells 4 rcells_len l (ln - 1) j _ hx hj
          have c0 := (O4.out.cellAt ((ln - 1) * 4) (by omega)).trans (at_ 0 (by omega))
          have c1 := (O4.out.cellAt ((ln - 1) * 4 + 1) (by omega)).trans (at_ 1 (by omega))
          have c2 := (O4.out.cellAt ((ln - 1) * 4 + 2) (by omega)).trans (at_ 2 (by omega))
          have c3 := (O4.out.cellAt ((ln - 1) * 4 + 3) (by omega)).trans (at_ 3 (by omega))
          obtain ⟨n2, hn2⟩ : ∃ n2 : ByteArray, Hid (txt xn = .string n2 ∧ n2.data.toList = xn) := txt_mk xn
          obtain ⟨t2, ht2⟩ : ∃ t2 : ByteArray, Hid (txt xt = .string t2 ∧ t2.data.toList = xt) := txt_mk xt
          simp only [rcells, List.getElem?_cons_zero, List.getElem?_cons_succ, hn2.out.1, ht2.out.1] at c0 c1 c2 c3
          have q1 : IntKind.i64.wrap ((ln : Int) - 1) = (ln : Int) - 1 := by rw [IntKind.wrap_i64]; omega
          have q2 : (0 : Int) ≤ (ln : Int) - 1 := by omega
          have q3 : ((ln : Int) - 1).toNat = ln - 1 := by omega
          have q4 : (ln : Int) - 1 < (ln : Int) := by omega
          have KB := B4.out
          obtain ⟨k0, g0⟩ := KB.2 0 _ rfl
          obtain ⟨k1, g1⟩ := KB.2 1 _ rfl
          obtain ⟨k2, g2⟩ := KB.2 2 _ rfl
          obtain ⟨k3, g3⟩ := KB.2 3 _ rfl
          clear hx at_
          have hgb : g ≠ b1 := by have := HLT.out g rfl; omega
          have HFX := hid hfx
          go_wp2_with fail
          have B5 := hid ((((KB.set 0 (.string n2)).set 1 (.int .i64 xl)).set 2 (.string t2)).set 3 (.int .i64 xs))
          have O5 := hid (own_cellset (own_cellset (own_cellset (own_cellset O4.out hgb (j := 0) (u := .string n2)) hgb (j := 1) (u := .int .i64 xl)) hgb (j := 2) (u := .string t2)) hgb (j := 3) (u := .int .i64 xs))
          have R5 := hid ((((R4.out.set (j := 0) (u := .string n2) (Nat.lt_trans hlt hbb)).set (j := 1) (u := .int .i64 xl) (Nat.lt_trans hlt hbb)).set (j := 2) (u := .string t2) (Nat.lt_trans hlt hbb)).set (j := 3) (u := .int .i64 xs) (Nat.lt_trans hlt hbb))
          have hbw : w.heap.size ≤ b1 := by rw [hbase.out]; omega
          have G5 := hid (grown_at (j := 3) (u := .int .i64 xs) (grown_at (j := 2) (u := .string t2) (grown_at (j := 1) (u := .int .i64 xl) (grown_at (j := 0) (u := .string n2) G4.out hbw) hbw) hbw) hbw)
          have hs5 : w4.heap.size ≤ ((((w4.setCell ⟨b1, 0, none⟩ (.string n2)).setCell ⟨b1, 1, none⟩ (.int .i64 xl)).setCell ⟨b1, 2, none⟩ (.string t2)).setCell ⟨b1, 3, none⟩ (.int .i64 xs)).heap.size := by simp
          clear KB k0 k1 k2 k3 g0 g1 g2 g3 c0 c1 c2 c3 B4 O4 R4 G4
          generalize (((w4.setCell ⟨b1, 0, none⟩ (.string n2)).setCell ⟨b1, 1, none⟩ (.int .i64 xl)).setCell ⟨b1, 2, none⟩ (.string t2)).setCell ⟨b1, 3, none⟩ (.int .i64 xs) = w5 at *
          have C6 := hid (pick_c R (p2 + 1) 10 w5 R5.out (by omega) (by omega))
          refine C6.out.mono ?_
          rintro e w6 ⟨kk, rfl, hk1, hk2, hr6, hg6⟩
          have hk6 : (kk : Int) < 10 := hk1 (by omega)
          have G6 := hid (grown_tr G5.out hg6)
          have O6 := hid (own_off O5.out hg6 (by omega))
          have B6 := hid (B5.out.kept hg6 (by simp; omega))
          have R6 := hid hr6
          have hsz6 : w5.heap.size ≤ w6.heap.size := hg6.size
          obtain ⟨_, g3⟩ := B6.out.2 3 _ rfl
          have hn20 : n2.size ≤ 20 ∧ t2.size ≤ 20 := by rw [Lib.size_eq, Lib.size_eq, hn2.out.2, ht2.out.2]; exact HFX.out
          clear hr6 hg6 hk1 hk2 C6 R5 G5 O5 B5
          have KB := B6.out
          obtain ⟨k0, _⟩ := KB.2 0 _ rfl
          obtain ⟨k1, _⟩ := KB.2 1 _ rfl
          obtain ⟨k2, _⟩ := KB.2 2 _ rfl
          obtain ⟨k3, _⟩ := KB.2 3 _ rfl
          have HOx := hid (show World.ownsRow _ base 46 4 _ l.length (l.flatMap rcells) from by rw [hln.out]; exact (own_cellset O6.out hgb (j := 3) (u := .int .i64 (kk : Int))))
          have hlx : l.length ≤ 1048576 := by rw [hln.out]; omega
          go_wp2_with (at_builtin; refine appRecord _ rfl (.tmp 33) (.tmp 35) rfl base _ l (by rfl) HOx.out n2 xl t2 (kk : Int) _ _ _ (by rfl) (by simp) hlx (by first | omega | (simp; omega)) ?_)
          intro v5 w5 ho5 hb5
          have HO5 := hid ho5
          have HR5 := hid (Rdr.low (R6.out.set (b := b1) (j := 3) (u := .int .i64 (kk : Int)) (Nat.lt_trans hlt hbb)) hb5 hlt)
          have HG5 := hid (show w.grownBy w5 (some R) from grown_low (grown_at (b := b1) (j := 3) (u := .int .i64 (kk : Int)) G6.out hbw) (by rw [hbase.out]; exact hb5))
          have hs5 : base < w5.heap.size := Nat.lt_of_lt_of_le (by first | omega | (simp; omega)) hb5.size
          clear ho5 hb5
          go_wp2_with fail
          go_roundw
          case rel => exact ⟨_, q - 1, l ++ [(⟨n2.data.toList, xl, t2.data.toList, (kk : Int)⟩ : Rec)], p2 + 1 + 1, rfl, by go_num, by omega, by rw [List.length_append, hln.out]; simp; omega, by rw [List.length_append, hln.out]; simp; omega, fit_add HF.out (by rw [← Lib.size_eq, ← Lib.size_eq]; exact hn20), (by show World.ownsRow _ _ _ _ _ _ _; simpa using HO5.out), HR5.out, HG5.out, hs5⟩
          case measure => simp [intOf]; omega

        · have q0 : ((k : Int) == 0) = false := by simp; omega
          have KB := B4.out
          obtain ⟨k0, _⟩ := KB.2 0 _ rfl
          obtain ⟨k1, _⟩ := KB.2 1 _ rfl
          obtain ⟨k2, _⟩ := KB.2 2 _ rfl
          obtain ⟨k3, _⟩ := KB.2 3 _ rfl
          have HOx := hid (show World.ownsRow _ base 46 4 _ l.length (l.flatMap rcells) from by rw [hln.out]; exact O4.out)
          have hlx : l.length ≤ 1048576 := by rw [hln.out]; omega
          go_wp2_with (at_builtin; refine appRecord _ rfl (.tmp 33) (.tmp 35) rfl base _ l (by rfl) HOx.out nm lv tx sq _ _ _ (by rfl) (by simp) hlx (by first | omega | (simp; omega)) ?_)
          intro v5 w5 ho5 hb5
          have HO5 := hid ho5
          have HR5 := hid (Rdr.low R4.out hb5 hlt)
          have HG5 := hid (show w.grownBy w5 (some R) from grown_low G4.out (by rw [hbase.out]; exact hb5))
          have hs5 : base < w5.heap.size := Nat.lt_of_lt_of_le (by first | omega | (simp; omega)) hb5.size
          clear ho5 hb5
          go_wp2_with fail
          go_roundw
          case rel => exact ⟨_, q - 1, l ++ [(⟨nm.data.toList, lv, tx.data.toList, sq⟩ : Rec)], p2 + 1, rfl, by go_num, by omega, by rw [List.length_append, hln.out]; simp; omega, by rw [List.length_append, hln.out]; simp; omega, fit_add HF.out (by rw [← Lib.size_eq, ← Lib.size_eq]; exact ⟨hnm, htx⟩), (by show World.ownsRow _ _ _ _ _ _ _; simpa using HO5.out), HR5.out, HG5.out, hs5⟩
          case measure => simp [intOf]; omega


    · obtain rfl : q = 0 := by omega
      go_wp2_with fail
      go_ret
      have hb := hbase.out
      have hl := hln.out
      subst hb hl
      exact ⟨_, l, p', rfl, by omega, HF.out, HO.out, by omega, HR.out, HG.out⟩
end Go.Proofs.Ytfjpfdmlcgkfeaa

/-
  DRAWS: lists of records that may be invalid. By gen_d4.py.
-/
namespace Go.Proofs.Ytfjpfdmlcgkfeaa
open Go.RowKit Nm
set_option linter.unusedSimpArgs false
set_option linter.unusedVariables false

abbrev fit20 (l : List Rec) : Prop := ∀ x ∈ l, x.nm.length ≤ 20 ∧ x.tx.length ≤ 20
theorem fit_app {l l2 : List Rec} (h : fit20 l) (h2 : fit20 l2) : fit20 (l ++ l2) := by
  intro y hy
  rcases List.mem_append.1 hy with hy | hy
  · exact h y hy
  · exact h2 y hy
theorem fit_set {l : List Rec} {x : Rec} {k : Nat} (h : fit20 l) (hx : x.nm.length ≤ 20 ∧ x.tx.length ≤ 20) : fit20 (l.set k x) := by
  intro y hy
  rcases List.mem_or_eq_of_mem_set hy with hy | rfl
  · exact h y hy
  · exact hx

set_option maxHeartbeats 4000000 in
set_option maxRecDepth 100000 in
theorem someRecords_c (R p : Nat) (w : World) (hr : Rdr w R p) (hp : p ≤ 600000) :
    Calls Try.prog 38 #[.pointer (some ⟨R, 0, none⟩)] w (RecsPost R p 200 25 w) := by
  have hlt := hr.lt
  have C := hid (goodRecords_c R p w hr (by omega))
  clear hr
  generalize hbase : w.heap.size = base at hlt
  replace hbase := hid hbase
  go_enter Try.func38, Try.ntmps38
  go_wp2_with fail
  refine C.out.mono ?_
  rintro e w1 ⟨v, l, p1, rfl, hl12, hfit, ho1, hp1, hr1, hg1⟩
  obtain ⟨A, c, rfl, hnc, hcm⟩ := (Sl.of_own ho1).form
  unfold maxLen at hcm
  have hs1 : base ≤ w1.heap.size := by rw [← hbase.out]; exact hg1.size
  rw [hbase.out] at ho1
  have O1 := hid ho1
  have R1 := hid hr1
  have G1 := hid hg1
  have F1 := hid hfit
  have L1 := hid hl12
  clear ho1 hr1 hg1 hfit C
  rcases Nat.eq_zero_or_pos l.length with hz | hz
  · generalize hln : l.length = ln at *
    subst hz
    replace hln := hid hln
    clear hl12
    have C9 := hid (pick_c R (p1) 40 w1 R1.out (by omega) (by omega))
    have HL9 := hid (show l.length ≤ 12 from (by rw [hln.out]; exact L1.out))
    have HO9 := hid (O1.out)
    have HG9 := hid (G1.out)
    have HF9 := hid (show fit20 l from F1.out)
    have hs9 : base ≤ w1.heap.size := hs1
    have hln9 := hln.out
    replace hln9 := hid hln9
    have hl12 : 0 ≤ 12 := L1.out
    go_wp2_with fail
    refine C9.out.mono ?_
    rintro e w9 ⟨k9, rfl, _, _, hr9, hg9⟩
    have R9 := hid hr9
    have G9 := hid (grown_tr HG9.out hg9)
    have O9 := hid (own_off HO9.out hg9 hlt)
    have hs10 : base ≤ w9.heap.size := Nat.le_trans hs9 hg9.size
    clear hr9 hg9 C9 HG9 HO9
    rcases Nat.eq_zero_or_pos k9 with hk9 | hk9
    · subst hk9
      go_wp2_with (at_builtin; refine appRecordS _ rfl _ _ rfl base _ l l (by rfl) (show World.ownsRow _ base 46 4 _ l.length (l.flatMap rcells) by rw [hln9.out]; exact O9.out) _ _ (by rfl) (show Sl _ _ 4 l.length _ (l.flatMap rcells) by rw [hln9.out]; exact Sl.of_own O9.out) (by rw [hln9.out]; omega) hs10 ?_)
      intro v10 w10 ho10 hb10
      have O10 := hid (show w10.ownsRow base 46 4 v10 (l ++ l).length ((l ++ l).flatMap rcells) by simpa using ho10)
      have R10 := hid (Rdr.low R9.out hb10 hlt)
      have G10 := hid (show w.grownBy w10 (some R) from grown_low G9.out (by rw [hbase.out]; exact hb10))
      have hs11 : base ≤ w10.heap.size := Nat.le_trans hs10 hb10.size
      have C11 := hid (aRecord_c R (p1 + 1) w10 R10.out (by omega))
      have HL10 := hid (show (l ++ l).length ≤ 24 by rw [List.length_append, hln9.out]; omega)
      have HF10 := hid (fit_app HF9.out HF9.out)
      obtain ⟨A10, c10, rfl, _, _⟩ := (Sl.of_own O10.out).form
      generalize l ++ l = l10 at *
      clear ho10 hb10 R10 O9 R9 G9
      go_wp2_with fail
      refine C11.out.mono ?_
      rintro e w11 ⟨nm, tx, lv, sq, p11, ⟨hnm, htx⟩, _, _, rfl, hp11, hr11, hg11⟩
      have R11 := hid hr11
      have G11 := hid (grown_tr G10.out hg11)
      have O11 := hid (own_off O10.out hg11 hlt)
      have hs12 : base ≤ w11.heap.size := Nat.le_trans hs11 hg11.size
      clear hr11 hg11 C11 O10 G10
      have hl10 : l10.length ≤ 1048576 := by have := HL10.out; omega
      go_wp2_with (at_builtin; refine appRecord _ rfl _ _ rfl base _ l10 (by rfl) O11.out nm lv tx sq _ _ _ (by rfl) (by simp) hl10 hs12 ?_)
      intro v12 w12 ho12 hb12
      have O12 := hid (show w12.ownsRow base 46 4 v12 (l10 ++ [(⟨nm.data.toList, lv, tx.data.toList, sq⟩ : Rec)]).length ((l10 ++ [(⟨nm.data.toList, lv, tx.data.toList, sq⟩ : Rec)]).flatMap rcells) by simpa using ho12)
      have R12 := hid (Rdr.low R11.out hb12 hlt)
      have G12 := hid (show w.grownBy w12 (some R) from grown_low G11.out (by rw [hbase.out]; exact hb12))
      clear ho12 hb12
      go_wp2_with fail
      go_ret
      refine ⟨_, l10 ++ [(⟨nm.data.toList, lv, tx.data.toList, sq⟩ : Rec)], p11, rfl, ?_, fit_add HF10.out (by rw [← Lib.size_eq, ← Lib.size_eq]; exact ⟨hnm, htx⟩), (by rw [hbase.out]; exact O12.out), by omega, R12.out, G12.out⟩
      have := HL10.out
      simp; omega
    · have q9 : ((k9 : Int) == 0) = false := by simp; omega
      go_wp2_with fail
      go_ret
      exact ⟨_, l, _, rfl, by rw [hln9.out]; omega, HF9.out, (by rw [hbase.out, hln9.out]; exact O9.out), by omega, R9.out, G9.out⟩
  · generalize hln : l.length = ln at *
    replace hln := hid hln
    have hzi : decide ((0 : Int) < (ln : Int)) = true := by simp; omega
    have C2 := hid (pick_c R p1 16 w1 R1.out (by omega) (by omega))
    go_wp2_with fail
    refine C2.out.mono ?_
    rintro e w2 ⟨k, rfl, _, _, hr2, hg2⟩
    have R2 := hid hr2
    have G2 := hid (grown_tr G1.out hg2)
    have O2 := hid (own_off O1.out hg2 hlt)
    have hs2 : base ≤ w2.heap.size := Nat.le_trans hs1 hg2.size
    clear hr2 hg2 C2 R1 G1 O1
    rcases Nat.eq_zero_or_pos k with hk | hk
    · subst hk
      have C3 := hid (pick_c R (p1 + 1) (ln : Int) w2 R2.out (by omega) (by omega))
      go_wp2_with fail
      refine C3.out.mono ?_
      rintro e w3 ⟨i, rfl, hi1, _, hr3, hg3⟩
      have hi : i < ln := by have := hi1 (by omega); omega
      have G3 := hid (grown_tr G2.out hg3)
      have O3 := hid (own_off O2.out hg3 hlt)
      have hs3 : base ≤ w3.heap.size := Nat.le_trans hs2 hg3.size
      have C4 := hid (someRecord_c R (p1 + 1 + 1) w3 hr3 (by omega))
      clear hr3 hg3 C3 R2 G2 O2 hi1
      go_wp2_with fail
      refine C4.out.mono ?_
      rintro e w4 ⟨nm, tx, lv, sq, p4, ⟨hnm, htx⟩, _, _, rfl, hp4, hr4, hg4⟩
      have G4 := hid (grown_tr G3.out hg4)
      have O4 := hid (own_off O3.out hg4 hlt)
      have R4 := hid hr4
      have hs4 : base ≤ w4.heap.size := Nat.le_trans hs3 hg4.size
      clear hr4 hg4 C4 G3 O3
      obtain ⟨g, rfl, hglt⟩ := own_some O4.out (by omega)
      have hgb : base ≤ g := (O4.out.lt g rfl).1
      have hi4 : i * 4 + 3 < ln * 4 := by omega
      obtain ⟨_, c0⟩ := own_cell O4.out (j := i * 4) (by omega)
      obtain ⟨_, c1⟩ := own_cell O4.out (j := i * 4 + 1) (by omega)
      obtain ⟨_, c2⟩ := own_cell O4.out (j := i * 4 + 2) (by omega)
      obtain ⟨_, c3⟩ := own_cell O4.out (j := i * 4 + 3) (by omega)
      have f0 := O4.out.frozenAt (i * 4)
      have f1 := O4.out.frozenAt (i * 4 + 1)
      have f2 := O4.out.frozenAt (i * 4 + 2)
      have f3 := O4.out.frozenAt (i * 4 + 3)
      obtain ⟨x, hx⟩ : ∃ x, l[i]? = some x := ⟨_, List.getElem?_eq_getElem (by rw [hln.out]; exact hi)⟩
      have e4 : (((((l.flatMap rcells).set (i * 4) (.string nm)).set (i * 4 + 1) (.int .i64 lv)).set (i * 4 + 2) (.string tx)).set (i * 4 + 3) (.int .i64 sq)) = (l.set i ⟨nm.data.toList, lv, tx.data.toList, sq⟩).flatMap rcells := by
        have e0 := flat_set rcells 4 rcells_len l i 0 x ⟨nm.data.toList, x.lv, x.tx, x.sq⟩ (.string nm) hx (by omega) (by simp [rcells, txt_data])
        have e1 := flat_set rcells 4 rcells_len (l.set i ⟨nm.data.toList, x.lv, x.tx, x.sq⟩) i 1 ⟨nm.data.toList, x.lv, x.tx, x.sq⟩ ⟨nm.data.toList, lv, x.tx, x.sq⟩ (.int .i64 lv) (set_at hx _) (by omega) (by simp [rcells])
        have e2 := flat_set rcells 4 rcells_len (l.set i ⟨nm.data.toList, lv, x.tx, x.sq⟩) i 2 ⟨nm.data.toList, lv, x.tx, x.sq⟩ ⟨nm.data.toList, lv, tx.data.toList, x.sq⟩ (.string tx) (set_at hx _) (by omega) (by simp [rcells, txt_data])
        have e3 := flat_set rcells 4 rcells_len (l.set i ⟨nm.data.toList, lv, tx.data.toList, x.sq⟩) i 3 ⟨nm.data.toList, lv, tx.data.toList, x.sq⟩ ⟨nm.data.toList, lv, tx.data.toList, sq⟩ (.int .i64 sq) (set_at hx _) (by omega) (by simp [rcells])
        rw [List.set_set] at e1 e2 e3
        rw [Nat.add_zero] at e0
        rw [e0, e1, e2, e3]
      have HX := hid (And.intro hx e4)
      clear hx e4
      go_wp2_with fail
      have O5 := hid (own_put4 O4.out (i * 4) (.string nm) (.int .i64 lv) (.string tx) (.int .i64 sq))
      rw [HX.out.2] at O5
      have hgR : R < g := Nat.lt_of_lt_of_le hlt hgb
      have hgw : w.heap.size ≤ g := by rw [hbase.out]; exact hgb
      have R5 := hid ((((R4.out.set (j := i * 4) (u := .string nm) hgR).set (j := i * 4 + 1) (u := .int .i64 lv) hgR).set (j := i * 4 + 2) (u := .string tx) hgR).set (j := i * 4 + 3) (u := .int .i64 sq) hgR)
      have G5 := hid (grown_at (j := i * 4 + 3) (u := .int .i64 sq) (grown_at (j := i * 4 + 2) (u := .string tx) (grown_at (j := i * 4 + 1) (u := .int .i64 lv) (grown_at (j := i * 4) (u := .string nm) G4.out hgw) hgw) hgw) hgw)
      have hs5 : base ≤ ((((w4.setCell ⟨g, i * 4, none⟩ (.string nm)).setCell ⟨g, i * 4 + 1, none⟩ (.int .i64 lv)).setCell ⟨g, i * 4 + 2, none⟩ (.string tx)).setCell ⟨g, i * 4 + 3, none⟩ (.int .i64 sq)).heap.size := by simpa using hs4
      clear c0 c1 c2 c3 f0 f1 f2 f3 O4 R4 G4
      generalize (((w4.setCell ⟨g, i * 4, none⟩ (.string nm)).setCell ⟨g, i * 4 + 1, none⟩ (.int .i64 lv)).setCell ⟨g, i * 4 + 2, none⟩ (.string tx)).setCell ⟨g, i * 4 + 3, none⟩ (.int .i64 sq) = w5 at *
      have F5 := hid (fit_set (k := i) F1.out (x := ⟨nm.data.toList, lv, tx.data.toList, sq⟩) (by rw [← Lib.size_eq, ← Lib.size_eq]; exact ⟨hnm, htx⟩))
      have hln5 : (l.set i ⟨nm.data.toList, lv, tx.data.toList, sq⟩).length = ln := by rw [List.length_set]; exact hln.out
      generalize l.set i ⟨nm.data.toList, lv, tx.data.toList, sq⟩ = l5 at *
      replace hln5 := hid hln5
      have C9 := hid (pick_c R (p4) 40 w5 R5.out (by omega) (by omega))
      have HL9 := hid (show l5.length ≤ 12 from (by rw [hln5.out]; exact L1.out))
      have HO9 := hid (O5.out)
      have HG9 := hid (G5.out)
      have HF9 := hid (show fit20 l5 from F5.out)
      have hs9 : base ≤ w5.heap.size := hs5
      have hln9 := hln5.out
      replace hln9 := hid hln9
      have hl12 : ln ≤ 12 := L1.out
      refine C9.out.mono ?_
      rintro e w9 ⟨k9, rfl, _, _, hr9, hg9⟩
      have R9 := hid hr9
      have G9 := hid (grown_tr HG9.out hg9)
      have O9 := hid (own_off HO9.out hg9 hlt)
      have hs10 : base ≤ w9.heap.size := Nat.le_trans hs9 hg9.size
      clear hr9 hg9 C9 HG9 HO9
      rcases Nat.eq_zero_or_pos k9 with hk9 | hk9
      · subst hk9
        go_wp2_with (at_builtin; refine appRecordS _ rfl _ _ rfl base _ l5 l5 (by rfl) (show World.ownsRow _ base 46 4 _ l5.length (l5.flatMap rcells) by rw [hln9.out]; exact O9.out) _ _ (by rfl) (show Sl _ _ 4 l5.length _ (l5.flatMap rcells) by rw [hln9.out]; exact Sl.of_own O9.out) (by rw [hln9.out]; omega) hs10 ?_)
        intro v10 w10 ho10 hb10
        have O10 := hid (show w10.ownsRow base 46 4 v10 (l5 ++ l5).length ((l5 ++ l5).flatMap rcells) by simpa using ho10)
        have R10 := hid (Rdr.low R9.out hb10 hlt)
        have G10 := hid (show w.grownBy w10 (some R) from grown_low G9.out (by rw [hbase.out]; exact hb10))
        have hs11 : base ≤ w10.heap.size := Nat.le_trans hs10 hb10.size
        have C11 := hid (aRecord_c R (p4 + 1) w10 R10.out (by omega))
        have HL10 := hid (show (l5 ++ l5).length ≤ 24 by rw [List.length_append, hln9.out]; omega)
        have HF10 := hid (fit_app HF9.out HF9.out)
        obtain ⟨A10, c10, rfl, _, _⟩ := (Sl.of_own O10.out).form
        generalize l5 ++ l5 = l10 at *
        clear ho10 hb10 R10 O9 R9 G9
        go_wp2_with fail
        refine C11.out.mono ?_
        rintro e w11 ⟨nm, tx, lv, sq, p11, ⟨hnm, htx⟩, _, _, rfl, hp11, hr11, hg11⟩
        have R11 := hid hr11
        have G11 := hid (grown_tr G10.out hg11)
        have O11 := hid (own_off O10.out hg11 hlt)
        have hs12 : base ≤ w11.heap.size := Nat.le_trans hs11 hg11.size
        clear hr11 hg11 C11 O10 G10
        have hl10 : l10.length ≤ 1048576 := by have := HL10.out; omega
        go_wp2_with (at_builtin; refine appRecord _ rfl _ _ rfl base _ l10 (by rfl) O11.out nm lv tx sq _ _ _ (by rfl) (by simp) hl10 hs12 ?_)
        intro v12 w12 ho12 hb12
        have O12 := hid (show w12.ownsRow base 46 4 v12 (l10 ++ [(⟨nm.data.toList, lv, tx.data.toList, sq⟩ : Rec)]).length ((l10 ++ [(⟨nm.data.toList, lv, tx.data.toList, sq⟩ : Rec)]).flatMap rcells) by simpa using ho12)
        have R12 := hid (Rdr.low R11.out hb12 hlt)
        have G12 := hid (show w.grownBy w12 (some R) from grown_low G11.out (by rw [hbase.out]; exact hb12))
        clear ho12 hb12
        go_wp2_with fail
        go_ret
        refine ⟨_, l10 ++ [(⟨nm.data.toList, lv, tx.data.toList, sq⟩ : Rec)], p11, rfl, ?_, fit_add HF10.out (by rw [← Lib.size_eq, ← Lib.size_eq]; exact ⟨hnm, htx⟩), (by rw [hbase.out]; exact O12.out), by omega, R12.out, G12.out⟩
        have := HL10.out
        simp; omega
      · have q9 : ((k9 : Int) == 0) = false := by simp; omega
        go_wp2_with fail
        go_ret
        exact ⟨_, l5, _, rfl, by rw [hln9.out]; omega, HF9.out, (by rw [hbase.out, hln9.out]; exact O9.out), by omega, R9.out, G9.out⟩

    · have q0 : ((k : Int) == 0) = false := by simp; omega
      have C9 := hid (pick_c R (p1 + 1) 40 w2 R2.out (by omega) (by omega))
      have HL9 := hid (show l.length ≤ 12 from (by rw [hln.out]; exact L1.out))
      have HO9 := hid (O2.out)
      have HG9 := hid (G2.out)
      have HF9 := hid (show fit20 l from F1.out)
      have hs9 : base ≤ w2.heap.size := hs2
      have hln9 := hln.out
      replace hln9 := hid hln9
      have hl12 : ln ≤ 12 := L1.out
      go_wp2_with fail
      refine C9.out.mono ?_
      rintro e w9 ⟨k9, rfl, _, _, hr9, hg9⟩
      have R9 := hid hr9
      have G9 := hid (grown_tr HG9.out hg9)
      have O9 := hid (own_off HO9.out hg9 hlt)
      have hs10 : base ≤ w9.heap.size := Nat.le_trans hs9 hg9.size
      clear hr9 hg9 C9 HG9 HO9
      rcases Nat.eq_zero_or_pos k9 with hk9 | hk9
      · subst hk9
        go_wp2_with (at_builtin; refine appRecordS _ rfl _ _ rfl base _ l l (by rfl) (show World.ownsRow _ base 46 4 _ l.length (l.flatMap rcells) by rw [hln9.out]; exact O9.out) _ _ (by rfl) (show Sl _ _ 4 l.length _ (l.flatMap rcells) by rw [hln9.out]; exact Sl.of_own O9.out) (by rw [hln9.out]; omega) hs10 ?_)
        intro v10 w10 ho10 hb10
        have O10 := hid (show w10.ownsRow base 46 4 v10 (l ++ l).length ((l ++ l).flatMap rcells) by simpa using ho10)
        have R10 := hid (Rdr.low R9.out hb10 hlt)
        have G10 := hid (show w.grownBy w10 (some R) from grown_low G9.out (by rw [hbase.out]; exact hb10))
        have hs11 : base ≤ w10.heap.size := Nat.le_trans hs10 hb10.size
        have C11 := hid (aRecord_c R (p1 + 1 + 1) w10 R10.out (by omega))
        have HL10 := hid (show (l ++ l).length ≤ 24 by rw [List.length_append, hln9.out]; omega)
        have HF10 := hid (fit_app HF9.out HF9.out)
        obtain ⟨A10, c10, rfl, _, _⟩ := (Sl.of_own O10.out).form
        generalize l ++ l = l10 at *
        clear ho10 hb10 R10 O9 R9 G9
        go_wp2_with fail
        refine C11.out.mono ?_
        rintro e w11 ⟨nm, tx, lv, sq, p11, ⟨hnm, htx⟩, _, _, rfl, hp11, hr11, hg11⟩
        have R11 := hid hr11
        have G11 := hid (grown_tr G10.out hg11)
        have O11 := hid (own_off O10.out hg11 hlt)
        have hs12 : base ≤ w11.heap.size := Nat.le_trans hs11 hg11.size
        clear hr11 hg11 C11 O10 G10
        have hl10 : l10.length ≤ 1048576 := by have := HL10.out; omega
        go_wp2_with (at_builtin; refine appRecord _ rfl _ _ rfl base _ l10 (by rfl) O11.out nm lv tx sq _ _ _ (by rfl) (by simp) hl10 hs12 ?_)
        intro v12 w12 ho12 hb12
        have O12 := hid (show w12.ownsRow base 46 4 v12 (l10 ++ [(⟨nm.data.toList, lv, tx.data.toList, sq⟩ : Rec)]).length ((l10 ++ [(⟨nm.data.toList, lv, tx.data.toList, sq⟩ : Rec)]).flatMap rcells) by simpa using ho12)
        have R12 := hid (Rdr.low R11.out hb12 hlt)
        have G12 := hid (show w.grownBy w12 (some R) from grown_low G11.out (by rw [hbase.out]; exact hb12))
        clear ho12 hb12
        go_wp2_with fail
        go_ret
        refine ⟨_, l10 ++ [(⟨nm.data.toList, lv, tx.data.toList, sq⟩ : Rec)], p11, rfl, ?_, fit_add HF10.out (by rw [← Lib.size_eq, ← Lib.size_eq]; exact ⟨hnm, htx⟩), (by rw [hbase.out]; exact O12.out), by omega, R12.out, G12.out⟩
        have := HL10.out
        simp; omega
      · have q9 : ((k9 : Int) == 0) = false := by simp; omega
        go_wp2_with fail
        go_ret
        exact ⟨_, l, _, rfl, by rw [hln9.out]; omega, HF9.out, (by rw [hbase.out, hln9.out]; exact O9.out), by omega, R9.out, G9.out⟩
end Go.Proofs.Ytfjpfdmlcgkfeaa
