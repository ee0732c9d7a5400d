/-
  WALKS: the reader of a drawn input (spec.newReader, pick, of), names that are drawn.
-/
import Derived.Test.YtjejildgbmkbbaaBase
namespace Go.Proofs.Ytjejildgbmkbbaa
open Go.RowKit Nm
set_option linter.unusedSimpArgs false
set_option linter.unusedVariables false

/-- WHAT A LAW IS TOLD OF ITS CODE: nil, or a row of bytes. -/
def IsRow (k : IntKind) (w : World) (a : Option Addr) (len cap : Nat) (zs : List Int) : Prop :=
  (a = none ∧ len = 0 ∧ cap = 0 ∧ zs = []) ∨
  ∃ x, a = some x ∧ len ≤ cap ∧ cap ≤ maxLen ∧ zs.length = cap ∧ (∀ i, i < zs.length → w.cell? (x.add i) = some (.int k (zs.getD i 0))) ∧ ∀ n ∈ zs, (Lit.int k n).wf = true
/-- n bytes lie at A, in a block below R -/
def Bytes (w : World) (R : Nat) (A : Option Addr) (n : Nat) : Prop :=
  0 < n → ∃ b o, A = some ⟨b, o, none⟩ ∧ b < R ∧ b < w.heap.size ∧ ∀ j, j < n → ∃ x : Nat, x < 256 ∧ w.cell? ⟨b, o + j, none⟩ = some (.int .u8 x)
/-- block R is a reader that has read p numbers -/
def Rdr (w : World) (R p : Nat) : Prop :=
  ∃ A m c, w.heap[R]? = some (.cells #[.slice A m c, .int .i64 p] 66 (0, 0)) ∧ m ≤ 2000 ∧ m ≤ c ∧ c ≤ maxLen ∧ Bytes w R A m

theorem Bytes.kept {w w' : World} {R n : Nat} {A : Option Addr} (h : Bytes w R A n) (hg : w.grownBy w' (some R)) : Bytes w' R A n := by
  intro hn
  obtain ⟨b, o, e, h1, h2, h3⟩ := h hn
  refine ⟨b, o, e, h1, Nat.lt_of_lt_of_le h2 hg.size, fun j hj => ?_⟩
  obtain ⟨x, hx, hc⟩ := h3 j hj
  exact ⟨x, hx, (World.cell?_of_block (hg.block b h2 (by simpa using Nat.ne_of_lt h1))).trans hc⟩
theorem Rdr.lt {w : World} {R p : Nat} (h : Rdr w R p) : R < w.heap.size := by
  obtain ⟨A, m, c, h, _⟩ := h
  exact (Array.getElem?_eq_some_iff.1 h).1
theorem Rdr.below {w w' : World} {R p : Nat} (h : Rdr w R p) (hb : Below w.heap.size w w') : Rdr w' R p := by
  obtain ⟨A, m, c, h1, h2, h3, h4, h5⟩ := h
  exact ⟨A, m, c, (hb.block R (Array.getElem?_eq_some_iff.1 h1).1).trans h1, h2, h3, h4, h5.kept (grown_of hb _)⟩
theorem grown_tr {a b c : World} {row : Option Nat} (h : a.grownBy b row) (k : b.grownBy c row) : a.grownBy c row :=
  ⟨k.os.trans h.os, k.tape.trans h.tape, k.output.trans h.output, Nat.le_trans h.size k.size,
    fun i hi hne => (k.block i (Nat.lt_of_lt_of_le hi h.size) hne).trans (h.block i hi hne)⟩
theorem grown_drN {a w : World} {row : Option Nat} (h : a.grownBy w row) (n : Nat) : a.grownBy (w.drewN n) row := ⟨h.os, h.tape, h.output, h.size, h.block⟩

set_option maxHeartbeats 1000000 in
set_option maxRecDepth 100000 in
theorem newReader_c (a : Option Addr) (len cap : Nat) (z : List Int) (w : World) (h : IsRow .u8 w a len cap z) :
    Calls Try.prog 12 #[.slice a len cap] w fun e w' => e = .returned (.pointer (some ⟨w.heap.size, 0, none⟩)) ∧ Rdr w' w.heap.size 0 ∧ Below w.heap.size w w' := by
  have key : len ≤ cap ∧ cap ≤ maxLen ∧ ∀ n, n ≤ len → ∀ w', Below w.heap.size w w' → Bytes w' w.heap.size a n := by
    rcases h with ⟨rfl, rfl, rfl, rfl⟩ | ⟨x, rfl, h1, h2, h3, h4, h5⟩
    · exact ⟨Nat.le_refl _, Nat.zero_le _, fun n hn w' _ h0 => by omega⟩
    · refine ⟨h1, h2, fun n hn w' hb h0 => ?_⟩
      have hc0 := h4 0 (by omega)
      obtain ⟨b, o, rfl, hc⟩ := ints_at h4 (by omega)
      have hlt : b < w.heap.size := World.block_lt_of_cell? w ⟨b, o, none⟩ (by simpa using hc 0 (by omega))
      refine ⟨b, o, rfl, by omega, Nat.lt_of_lt_of_le hlt hb.size, fun j hj => ?_⟩
      have hj2 : j < z.length := by omega
      have hm : z.getD j 0 ∈ z := by rw [List.getD_eq_getElem?_getD, List.getElem?_eq_getElem hj2]; exact List.getElem_mem hj2
      have hw := h5 _ hm
      have hw2 : 0 ≤ z.getD j 0 ∧ z.getD j 0 ≤ 255 := by simpa [Lit.wf, IntKind.min, IntKind.max, IntKind.signed, IntKind.bits] using hw
      refine ⟨(z.getD j 0).toNat, by omega, ?_⟩
      rw [(hb.cell (p := ⟨b, o + j, none⟩) hlt), hc j hj2]
      congr 2; omega
  obtain ⟨h1, h2, h3⟩ := key
  have H3 := hid h3
  have hcm := h2
  unfold maxLen at hcm
  clear h3 h
  by_cases hb : 2000 < len
  · go_enter Try.func12, Try.ntmps12
    go_wp2_with fail
    go_ret
    have hB : Below w.heap.size w (w.alloc (.cells #[.slice a 2000 cap, .int .i64 0] 66)) := (Below.refl _ _).alloc (Nat.le_refl _) _
    exact ⟨rfl, ⟨a, 2000, cap, heap_alloc_new w _, Nat.le_refl _, by omega, h2, H3.out 2000 (by omega) _ hB⟩, hB⟩
  · go_enter Try.func12, Try.ntmps12
    go_wp2_with fail
    go_ret
    have hB : Below w.heap.size w (w.alloc (.cells #[.slice a len cap, .int .i64 0] 66)) := (Below.refl _ _).alloc (Nat.le_refl _) _
    exact ⟨rfl, ⟨a, len, cap, heap_alloc_new w _, by omega, h1, h2, H3.out len (Nat.le_refl _) _ hB⟩, hB⟩

def PickPost (R p : Nat) (n : Int) (w : World) (e : Ending) (w' : World) : Prop :=
  ∃ k : Nat, e = .returned (.int .i64 k) ∧ (1 ≤ n → (k : Int) < n) ∧ (n < 1 → k = 0) ∧ Rdr w' R (p + 1) ∧ w.grownBy w' (some R)

theorem ofInt_toNat (a : Nat) (ha : a < 4611686018427387904) : (BitVec.ofInt 64 (a : Int)).toNat = a := by
  rw [BitVec.ofInt_natCast, BitVec.toNat_ofNat]; exact Nat.mod_eq_of_lt (by omega)
theorem xor_nat (a b : Nat) (ha : a < 4611686018427387904) (hb : b < 4611686018427387904) : bits BinOp.xor IntKind.i64 (a : Int) (b : Int) = ((a ^^^ b : Nat) : Int) := by
  have hx : a ^^^ b < 2 ^ 62 := Nat.xor_lt_two_pow (by omega) (by omega)
  show IntKind.i64.wrap ((BitVec.ofInt 64 (a : Int) ^^^ BitVec.ofInt 64 (b : Int)).toNat : Int) = _
  rw [BitVec.toNat_xor, ofInt_toNat a ha, ofInt_toNat b hb, IntKind.wrap_i64]
  omega
theorem wr_in (n : Int) (h1 : -4611686018427387904 ≤ n) (h2 : n ≤ 4611686018427387904) : wrap64 n = n := IntWalk.wrap64_in (by omega) (by omega)
theorem pick_val (x y p m N : Nat) (hx : x < 256) (hy : y < 256) (hp : p ≤ 1000000) (hN : 1 ≤ N) :
    ∃ r : Nat, ((bits BinOp.xor IntKind.i64 (wrap64 ((x : Int) * 131 + (y : Int) * 1117 + (p : Int) * 29 + wrap64 (wrap64 ((p : Int) / (m : Int)) * 53)))
      (wrap64 ((wrap64 ((x : Int) * 131 + (y : Int) * 1117 + (p : Int) * 29 + wrap64 (wrap64 ((p : Int) / (m : Int)) * 53))).tdiv 64))).tmod (N : Int)) = (r : Int) ∧ r < N := by
  have hq : p / m ≤ 1000000 := Nat.le_trans (Nat.div_le_self _ _) hp
  rw [show (p : Int) / (m : Int) = ((p / m : Nat) : Int) from rfl]
  generalize p / m = q at hq ⊢
  have e1 : wrap64 (q : Int) = (q : Int) := wr_in _ (by omega) (by omega)
  have e2 : wrap64 ((q : Int) * 53) = ((q * 53 : Nat) : Int) := by
    rw [wr_in _ (by omega) (by omega)]; omega
  rw [e1, e2]
  have e3 : wrap64 ((x : Int) * 131 + (y : Int) * 1117 + (p : Int) * 29 + ((q * 53 : Nat) : Int)) = ((x * 131 + y * 1117 + p * 29 + q * 53 : Nat) : Int) := by
    rw [wr_in _ (by omega) (by omega)]; omega
  rw [e3]
  generalize hX : x * 131 + y * 1117 + p * 29 + q * 53 = X
  have hXb : X < 1000000000 := by omega
  have e4 : wrap64 ((X : Int).tdiv 64) = ((X / 64 : Nat) : Int) := by
    rw [show (X : Int).tdiv 64 = ((X / 64 : Nat) : Int) from rfl]
    exact wr_in _ (by omega) (by omega)
  rw [e4, xor_nat X (X / 64) (by omega) (by omega)]
  exact ⟨(X ^^^ X / 64) % N, rfl, Nat.mod_lt _ hN⟩

set_option maxHeartbeats 4000000 in
set_option maxRecDepth 100000 in
theorem pick_c (R p : Nat) (n : Int) (w : World) (hr : Rdr w R p) (hp : p ≤ 1000000) (hn : n ≤ 1048577) :
    Calls Try.prog 14 #[.pointer (some ⟨R, 0, none⟩), .int .i64 n] w (PickPost R p n w) := by
  obtain ⟨A, m, c, hh, hm, hmc, hcm, hby⟩ := hr
  have hc0 : w.cell? ⟨R, 0, none⟩ = some (.slice A m c) := cell_of_row w R 0 _ _ _ hh
  have hc1 : w.cell? ⟨R, 1, none⟩ = some (.int .i64 p) := cell_of_row w R 1 _ _ _ hh
  have hf1 : w.frozen? ⟨R, 1, none⟩ = false := frozen_of_row w R 1 _ _ hh
  have hset : (w.setCell ⟨R, 1, none⟩ (.int .i64 ((p : Int) + 1))).heap[R]? = some (.cells #[.slice A m c, .int .i64 ((p : Int) + 1)] 66 (0, 0)) :=
    heap_setCell_same w R 1 _ _ _ hh
  have hgr : w.grownBy (w.setCell ⟨R, 1, none⟩ (.int .i64 ((p : Int) + 1))) (some R) :=
    ⟨rfl, rfl, rfl, by simp, fun k _ hk => heap_setCell_other w ⟨R, 1, none⟩ k _ (fun e => hk (by simp [e]))⟩
  have hrd : Rdr (w.setCell ⟨R, 1, none⟩ (.int .i64 ((p : Int) + 1))) R (p + 1) := ⟨A, m, c, hset, hm, hmc, hcm, hby.kept hgr⟩
  have HB := hid (And.intro hgr (And.intro hrd hby))
  clear hset hgr hrd hby hh
  by_cases h1 : n < 1
  · go_enter Try.func14, Try.ntmps14
    go_wp2_with fail
    go_ret
    exact ⟨0, rfl, fun h => by omega, fun _ => rfl, HB.out.2.1, HB.out.1⟩
  obtain ⟨N, rfl⟩ : ∃ N : Nat, n = N := ⟨n.toNat, by omega⟩
  by_cases h2 : m = 0
  · subst h2
    go_enter Try.func14, Try.ntmps14
    go_wp2_with fail
    go_ret
    exact ⟨0, rfl, fun h => by omega, fun _ => rfl, HB.out.2.1, HB.out.1⟩
  have b2 : ((m : Int) == 0) = false := by simpa using h2
  obtain ⟨b, o, rfl, hbR', hbl, hbc⟩ := HB.out.2.2 (by omega)
  have hbR := Nat.ne_of_lt hbR'
  by_cases h3 : p < m
  · obtain ⟨x, hx, hcx⟩ := hbc p h3
    have hne : (⟨b, o + p, none⟩ : Addr) ≠ ⟨R, 1, none⟩ := by simp [hbR]
    clear hbc
    go_enter Try.func14, Try.ntmps14
    go_wp2_with fail
    go_ret
    exact ⟨x % N, ret_int (by omega), fun _ => by have := Nat.mod_lt x (show 0 < N by omega); omega, fun h => by omega, HB.out.2.1, HB.out.1⟩
  · have hm0 : 0 < m := by omega
    have i1 := Nat.mod_lt p hm0
    have i2 := Nat.mod_lt (p * 7 + 3) hm0
    obtain ⟨x, hx, hcx⟩ := hbc (p % m) i1
    obtain ⟨y, hy, hcy⟩ := hbc ((p * 7 + 3) % m) i2
    have j1 : 0 ≤ (p : Int) % (m : Int) := Int.emod_nonneg _ (by omega)
    have j2 : (p : Int) % (m : Int) < (m : Int) := Int.emod_lt_of_pos _ (by omega)
    have j3 : ((p : Int) % (m : Int)).toNat = p % m := rfl
    have j4 : 0 ≤ ((p : Int) * 7 + 3) % (m : Int) := Int.emod_nonneg _ (by omega)
    have j5 : ((p : Int) * 7 + 3) % (m : Int) < (m : Int) := Int.emod_lt_of_pos _ (by omega)
    have j6 : (((p : Int) * 7 + 3) % (m : Int)).toNat = (p * 7 + 3) % m := rfl
    clear hbc
    go_enter Try.func14, Try.ntmps14
    go_wp2_with fail
    go_quiet (fail)
    go_wp2_with fail
    go_ret
    obtain ⟨r, hr1, hr2⟩ := pick_val x y p m N hx hy hp (by omega)
    exact ⟨r, ret_int hr1, fun _ => by omega, fun h => by omega, HB.out.2.1, grown_drN HB.out.1 _⟩
end Go.Proofs.Ytjejildgbmkbbaa
