/-
  DRAWS: what the laws of files draw. By gen_d18.py.
-/
import Derived.Test.YtoiagfdhanhnkaaD17
namespace Go.Proofs.Ytoiagfdhanhnkaa
open Go.RowKit Nm
set_option linter.unusedSimpArgs false
set_option linter.unusedVariables false

theorem IsRow.leF {k : IntKind} {w : World} {a : Option Addr} {len cap : Nat} {z : List Int} (h : IsRow k w a len cap z) : len ≤ 9223372036854775807 := by
  rcases h with ⟨_, h, _, _⟩ | ⟨x, _, h1, h2, _⟩
  · omega
  · unfold maxLen at h2; omega
theorem IsRow.belowG {k : IntKind} {w w' : World} {a : Option Addr} {len cap : Nat} {z : List Int} (h : IsRow k w a len cap z) (hb : Below w.heap.size w w') : IsRow k w' a len cap z := by
  rcases h with h | ⟨x, h0, h1, h2, h3, h4, h5⟩
  · exact .inl h
  · exact .inr ⟨x, h0, h1, h2, h3, fun i hi => (hb.cell (World.block_lt_of_cell? w _ (h4 i hi))).trans (h4 i hi), h5⟩
def DrawFil (w : World) (e : Ending) (w2 : World) : Prop := ∃ (v : Value) (rs : List Row) (d : Fil), e = .returned v ∧ FilR rs v d ∧ filSm d ∧ Rows w2 w.heap.size rs ∧ Below w.heap.size w w2
def DrawFilS (w : World) (e : Ending) (w2 : World) : Prop := ∃ (v : Value) (rs : List Row) (d : Fil) (x : ByteArray), e = .returned (.tuple #[v, .string x]) ∧ FilR rs v d ∧ filSm d ∧ x.size ≤ 45 ∧ Rows w2 w.heap.size rs ∧ Below w.heap.size w w2
def DrawFilL (w : World) (e : Ending) (w2 : World) : Prop := ∃ (v u : Value) (rs rs2 : List Row) (d : Fil) (l : TxtL), e = .returned (.tuple #[v, u]) ∧ FilR rs v d ∧ filSm d ∧ StrsR rs2 u l ∧ l.length ≤ 13 ∧ (∀ x ∈ l, x.length ≤ 45) ∧ Rows w2 w.heap.size (rs2 ++ rs) ∧ Below w.heap.size w w2
set_option maxHeartbeats 2000000 in
set_option maxRecDepth 100000 in
theorem drawValidFiles_c (a : Option Addr) (len cap : Nat) (z : List Int) (w : World) (h : IsRow .u8 w a len cap z) :
    Calls Try.prog 27 #[.slice a len cap] w (DrawFil w) := by
  have K0 := hid (Blk.new w #[.int .i64 0, .int .i64 0, .slice none 0 0] 26)
  have HB0 := hid (show Below w.heap.size w (w.alloc (.cells #[.int .i64 0, .int .i64 0, .slice none 0 0] 26)) from (Below.refl _ _).alloc (Nat.le_refl _) _)
  have C := hid (newReader_c a len cap z _ (h.belowG HB0.out))
  simp only [World.size_alloc] at C
  clear h
  go_enter Try.func27, Try.ntmps27
  go_wp2_with fail
  refine C.out.mono ?_
  rintro e w1 ⟨rfl, hr1, hb1⟩
  have K1 := hid (K0.out.below hb1 (by omega))
  have HB1 := hid (HB0.out.trans (hb1.mono (by omega)))
  have C1 := hid (someFiles_c _ 0 w1 hr1 (by omega))
  have hs1 : w.heap.size < w1.heap.size := K1.out.1
  have hs1r : w.heap.size + 1 < w1.heap.size := hr1.lt
  clear hr1 hb1 C K0 HB0
  go_wp2_with fail
  refine C1.out.mono ?_
  rintro e w2 ⟨v, rs, d, p2, rfl, hs, hsm, hr, hp2, hrd2, hg2⟩
  obtain ⟨A, n, c, rfl⟩ := hs.form hr
  have K2 := hid (K1.out.kept hg2 (by simp))
  have HX := hid (And.intro hs (And.intro hr hsm))
  have HG2 := hid hg2
  have HD2 := hid hrd2
  clear hs hr hsm hrd2 hg2 C1 K1
  have HB2 := hid (HB1.out.trans (below_own HG2.out HB1.out.size (by omega)))
  obtain ⟨q0c, q0f⟩ := K2.out.2 0 _ rfl
  obtain ⟨q1c, q1f⟩ := K2.out.2 1 _ rfl
  obtain ⟨q2c, q2f⟩ := K2.out.2 2 _ rfl
  go_wp2_with fail
  have RB := ((K2.out.set 0 (.int .i64 d.mo)).set 1 (.int .i64 d.ke)).set 2 (.slice A n c)
  have f0 := (RB.2 0 _ rfl).1
  have f1 := (RB.2 1 _ rfl).1
  have f2 := (RB.2 2 _ rfl).1
  refine bodyPost_ret (v := .agg #[.int .i64 d.mo, .int .i64 d.ke, .slice A n c]) (by simp [results, Try.results27, go_sem, f0, f1, f2]) rfl ?_
  refine ⟨_, rs, d, rfl, HX.out.1, HX.out.2.2, ?_, ?_⟩
  · refine Rows.base (lo := w1.heap.size) ?_ (by omega)
    iterate 3 refine Rows.low ?_ (by omega)
    exact HX.out.2.1
  · iterate 3 refine Below.setCell ?_ (by simp) _
    exact HB2.out
set_option maxHeartbeats 2000000 in
set_option maxRecDepth 100000 in
theorem drawRollFiles_c (a : Option Addr) (len cap : Nat) (z : List Int) (w : World) (h : IsRow .u8 w a len cap z) :
    Calls Try.prog 39 #[.slice a len cap] w (DrawFil w) := by
  have K0 := hid (Blk.new w #[.int .i64 0, .int .i64 0, .slice none 0 0] 26)
  have HB0 := hid (show Below w.heap.size w (w.alloc (.cells #[.int .i64 0, .int .i64 0, .slice none 0 0] 26)) from (Below.refl _ _).alloc (Nat.le_refl _) _)
  have C := hid (newReader_c a len cap z _ (h.belowG HB0.out))
  simp only [World.size_alloc] at C
  clear h
  go_enter Try.func39, Try.ntmps39
  go_wp2_with fail
  refine C.out.mono ?_
  rintro e w1 ⟨rfl, hr1, hb1⟩
  have K1 := hid (K0.out.below hb1 (by omega))
  have HB1 := hid (HB0.out.trans (hb1.mono (by omega)))
  have C1 := hid (someFiles_c _ 0 w1 hr1 (by omega))
  have hs1 : w.heap.size < w1.heap.size := K1.out.1
  have hs1r : w.heap.size + 1 < w1.heap.size := hr1.lt
  clear hr1 hb1 C K0 HB0
  go_wp2_with fail
  refine C1.out.mono ?_
  rintro e w2 ⟨v, rs, d, p2, rfl, hs, hsm, hr, hp2, hrd2, hg2⟩
  obtain ⟨A, n, c, rfl⟩ := hs.form hr
  have K2 := hid (K1.out.kept hg2 (by simp))
  have HX := hid (And.intro hs (And.intro hr hsm))
  have HG2 := hid hg2
  have HD2 := hid hrd2
  clear hs hr hsm hrd2 hg2 C1 K1
  have HB2 := hid (HB1.out.trans (below_own HG2.out HB1.out.size (by omega)))
  obtain ⟨q0c, q0f⟩ := K2.out.2 0 _ rfl
  obtain ⟨q1c, q1f⟩ := K2.out.2 1 _ rfl
  obtain ⟨q2c, q2f⟩ := K2.out.2 2 _ rfl
  go_wp2_with fail
  have RB := ((K2.out.set 0 (.int .i64 d.mo)).set 1 (.int .i64 d.ke)).set 2 (.slice A n c)
  have f0 := (RB.2 0 _ rfl).1
  have f1 := (RB.2 1 _ rfl).1
  have f2 := (RB.2 2 _ rfl).1
  refine bodyPost_ret (v := .agg #[.int .i64 d.mo, .int .i64 d.ke, .slice A n c]) (by simp [results, Try.results39, go_sem, f0, f1, f2]) rfl ?_
  refine ⟨_, rs, d, rfl, HX.out.1, HX.out.2.2, ?_, ?_⟩
  · refine Rows.base (lo := w1.heap.size) ?_ (by omega)
    iterate 3 refine Rows.low ?_ (by omega)
    exact HX.out.2.1
  · iterate 3 refine Below.setCell ?_ (by simp) _
    exact HB2.out
set_option maxHeartbeats 2000000 in
set_option maxRecDepth 100000 in
theorem drawAllLines_c (a : Option Addr) (len cap : Nat) (z : List Int) (w : World) (h : IsRow .u8 w a len cap z) :
    Calls Try.prog 30 #[.slice a len cap] w (DrawFil w) := by
  have K0 := hid (Blk.new w #[.int .i64 0, .int .i64 0, .slice none 0 0] 26)
  have HB0 := hid (show Below w.heap.size w (w.alloc (.cells #[.int .i64 0, .int .i64 0, .slice none 0 0] 26)) from (Below.refl _ _).alloc (Nat.le_refl _) _)
  have C := hid (newReader_c a len cap z _ (h.belowG HB0.out))
  simp only [World.size_alloc] at C
  clear h
  go_enter Try.func30, Try.ntmps30
  go_wp2_with fail
  refine C.out.mono ?_
  rintro e w1 ⟨rfl, hr1, hb1⟩
  have K1 := hid (K0.out.below hb1 (by omega))
  have HB1 := hid (HB0.out.trans (hb1.mono (by omega)))
  have C1 := hid (someFiles_c _ 0 w1 hr1 (by omega))
  have hs1 : w.heap.size < w1.heap.size := K1.out.1
  have hs1r : w.heap.size + 1 < w1.heap.size := hr1.lt
  clear hr1 hb1 C K0 HB0
  go_wp2_with fail
  refine C1.out.mono ?_
  rintro e w2 ⟨v, rs, d, p2, rfl, hs, hsm, hr, hp2, hrd2, hg2⟩
  obtain ⟨A, n, c, rfl⟩ := hs.form hr
  have K2 := hid (K1.out.kept hg2 (by simp))
  have HX := hid (And.intro hs (And.intro hr hsm))
  have HG2 := hid hg2
  have HD2 := hid hrd2
  clear hs hr hsm hrd2 hg2 C1 K1
  have HB2 := hid (HB1.out.trans (below_own HG2.out HB1.out.size (by omega)))
  obtain ⟨q0c, q0f⟩ := K2.out.2 0 _ rfl
  obtain ⟨q1c, q1f⟩ := K2.out.2 1 _ rfl
  obtain ⟨q2c, q2f⟩ := K2.out.2 2 _ rfl
  go_wp2_with fail
  have RB := ((K2.out.set 0 (.int .i64 d.mo)).set 1 (.int .i64 d.ke)).set 2 (.slice A n c)
  have f0 := (RB.2 0 _ rfl).1
  have f1 := (RB.2 1 _ rfl).1
  have f2 := (RB.2 2 _ rfl).1
  refine bodyPost_ret (v := .agg #[.int .i64 d.mo, .int .i64 d.ke, .slice A n c]) (by simp [results, Try.results30, go_sem, f0, f1, f2]) rfl ?_
  refine ⟨_, rs, d, rfl, HX.out.1, HX.out.2.2, ?_, ?_⟩
  · refine Rows.base (lo := w1.heap.size) ?_ (by omega)
    iterate 3 refine Rows.low ?_ (by omega)
    exact HX.out.2.1
  · iterate 3 refine Below.setCell ?_ (by simp) _
    exact HB2.out
set_option maxHeartbeats 2000000 in
set_option maxRecDepth 100000 in
theorem drawWriteLine_c (a : Option Addr) (len cap : Nat) (z : List Int) (w : World) (h : IsRow .u8 w a len cap z) :
    Calls Try.prog 41 #[.slice a len cap] w (DrawFilS w) := by
  have K0 := hid (Blk.new w #[.int .i64 0, .int .i64 0, .slice none 0 0] 26)
  have HB0 := hid (show Below w.heap.size w (w.alloc (.cells #[.int .i64 0, .int .i64 0, .slice none 0 0] 26)) from (Below.refl _ _).alloc (Nat.le_refl _) _)
  have C := hid (newReader_c a len cap z _ (h.belowG HB0.out))
  simp only [World.size_alloc] at C
  clear h
  go_enter Try.func41, Try.ntmps41
  go_wp2_with fail
  refine C.out.mono ?_
  rintro e w1 ⟨rfl, hr1, hb1⟩
  have K1 := hid (K0.out.below hb1 (by omega))
  have HB1 := hid (HB0.out.trans (hb1.mono (by omega)))
  have C1 := hid (someFiles_c _ 0 w1 hr1 (by omega))
  have hs1 : w.heap.size < w1.heap.size := K1.out.1
  have hs1r : w.heap.size + 1 < w1.heap.size := hr1.lt
  clear hr1 hb1 C K0 HB0
  go_wp2_with fail
  refine C1.out.mono ?_
  rintro e w2 ⟨v, rs, d, p2, rfl, hs, hsm, hr, hp2, hrd2, hg2⟩
  obtain ⟨A, n, c, rfl⟩ := hs.form hr
  have K2 := hid (K1.out.kept hg2 (by simp))
  have HX := hid (And.intro hs (And.intro hr hsm))
  have HG2 := hid hg2
  have HD2 := hid hrd2
  clear hs hr hsm hrd2 hg2 C1 K1
  have C2 := hid (someLine_c _ p2 w2 HD2.out (by omega))
  go_wp2_with fail
  refine C2.out.mono ?_
  rintro e w3 ⟨x, p3, hx, rfl, hp3, hr3, hg3⟩
  replace K2 := hid (K2.out.kept hg3 (by simp))
  have HR3 := hid (HX.out.2.1.offF hg3 (by omega))
  have HG3 := hid (grown_tr HG2.out hg3)
  clear hr3 hg3 C2 HD2
  have HB2 := hid (HB1.out.trans (below_own HG3.out HB1.out.size (by omega)))
  obtain ⟨q0c, q0f⟩ := K2.out.2 0 _ rfl
  obtain ⟨q1c, q1f⟩ := K2.out.2 1 _ rfl
  obtain ⟨q2c, q2f⟩ := K2.out.2 2 _ rfl
  go_wp2_with fail
  have RB := ((K2.out.set 0 (.int .i64 d.mo)).set 1 (.int .i64 d.ke)).set 2 (.slice A n c)
  have f0 := (RB.2 0 _ rfl).1
  have f1 := (RB.2 1 _ rfl).1
  have f2 := (RB.2 2 _ rfl).1
  refine bodyPost_ret (v := .tuple #[.agg #[.int .i64 d.mo, .int .i64 d.ke, .slice A n c], .string x]) (by simp [results, Try.results41, go_sem, f0, f1, f2]) rfl ?_
  refine ⟨_, rs, d, x, rfl, HX.out.1, HX.out.2.2, hx, ?_, ?_⟩
  · refine Rows.base (lo := w1.heap.size) ?_ (by omega)
    iterate 3 refine Rows.low ?_ (by omega)
    exact HR3.out
  · iterate 3 refine Below.setCell ?_ (by simp) _
    exact HB2.out
set_option maxHeartbeats 2000000 in
set_option maxRecDepth 100000 in
theorem drawFindLine_c (a : Option Addr) (len cap : Nat) (z : List Int) (w : World) (h : IsRow .u8 w a len cap z) :
    Calls Try.prog 35 #[.slice a len cap] w (DrawFilS w) := by
  have K0 := hid (Blk.new w #[.int .i64 0, .int .i64 0, .slice none 0 0] 26)
  have HB0 := hid (show Below w.heap.size w (w.alloc (.cells #[.int .i64 0, .int .i64 0, .slice none 0 0] 26)) from (Below.refl _ _).alloc (Nat.le_refl _) _)
  have C := hid (newReader_c a len cap z _ (h.belowG HB0.out))
  simp only [World.size_alloc] at C
  clear h
  go_enter Try.func35, Try.ntmps35
  go_wp2_with fail
  refine C.out.mono ?_
  rintro e w1 ⟨rfl, hr1, hb1⟩
  have K1 := hid (K0.out.below hb1 (by omega))
  have HB1 := hid (HB0.out.trans (hb1.mono (by omega)))
  have C1 := hid (someFiles_c _ 0 w1 hr1 (by omega))
  have hs1 : w.heap.size < w1.heap.size := K1.out.1
  have hs1r : w.heap.size + 1 < w1.heap.size := hr1.lt
  clear hr1 hb1 C K0 HB0
  go_wp2_with fail
  refine C1.out.mono ?_
  rintro e w2 ⟨v, rs, d, p2, rfl, hs, hsm, hr, hp2, hrd2, hg2⟩
  obtain ⟨A, n, c, rfl⟩ := hs.form hr
  have K2 := hid (K1.out.kept hg2 (by simp))
  have HX := hid (And.intro hs (And.intro hr hsm))
  have HG2 := hid hg2
  have HD2 := hid hrd2
  clear hs hr hsm hrd2 hg2 C1 K1
  have C2 := hid (aLine_c _ p2 w2 HD2.out (by omega))
  go_wp2_with fail
  refine C2.out.mono ?_
  rintro e w3 ⟨x, p3, hx, rfl, hp3, hr3, hg3⟩
  replace K2 := hid (K2.out.kept hg3 (by simp))
  have HR3 := hid (HX.out.2.1.offF hg3 (by omega))
  have HG3 := hid (grown_tr HG2.out hg3)
  clear hr3 hg3 C2 HD2
  have HB2 := hid (HB1.out.trans (below_own HG3.out HB1.out.size (by omega)))
  obtain ⟨q0c, q0f⟩ := K2.out.2 0 _ rfl
  obtain ⟨q1c, q1f⟩ := K2.out.2 1 _ rfl
  obtain ⟨q2c, q2f⟩ := K2.out.2 2 _ rfl
  go_wp2_with fail
  have RB := ((K2.out.set 0 (.int .i64 d.mo)).set 1 (.int .i64 d.ke)).set 2 (.slice A n c)
  have f0 := (RB.2 0 _ rfl).1
  have f1 := (RB.2 1 _ rfl).1
  have f2 := (RB.2 2 _ rfl).1
  refine bodyPost_ret (v := .tuple #[.agg #[.int .i64 d.mo, .int .i64 d.ke, .slice A n c], .string x]) (by simp [results, Try.results35, go_sem, f0, f1, f2]) rfl ?_
  refine ⟨_, rs, d, x, rfl, HX.out.1, HX.out.2.2, hx, ?_, ?_⟩
  · refine Rows.base (lo := w1.heap.size) ?_ (by omega)
    iterate 3 refine Rows.low ?_ (by omega)
    exact HR3.out
  · iterate 3 refine Below.setCell ?_ (by simp) _
    exact HB2.out
set_option maxHeartbeats 2000000 in
set_option maxRecDepth 100000 in
theorem drawWriteLines_c (a : Option Addr) (len cap : Nat) (z : List Int) (w : World) (h : IsRow .u8 w a len cap z) :
    Calls Try.prog 43 #[.slice a len cap] w (DrawFilL w) := by
  have K0 := hid (Blk.new w #[.int .i64 0, .int .i64 0, .slice none 0 0] 26)
  have HB0 := hid (show Below w.heap.size w (w.alloc (.cells #[.int .i64 0, .int .i64 0, .slice none 0 0] 26)) from (Below.refl _ _).alloc (Nat.le_refl _) _)
  have C := hid (newReader_c a len cap z _ (h.belowG HB0.out))
  simp only [World.size_alloc] at C
  clear h
  go_enter Try.func43, Try.ntmps43
  go_wp2_with fail
  refine C.out.mono ?_
  rintro e w1 ⟨rfl, hr1, hb1⟩
  have K1 := hid (K0.out.below hb1 (by omega))
  have HB1 := hid (HB0.out.trans (hb1.mono (by omega)))
  have C1 := hid (someFiles_c _ 0 w1 hr1 (by omega))
  have hs1 : w.heap.size < w1.heap.size := K1.out.1
  have hs1r : w.heap.size + 1 < w1.heap.size := hr1.lt
  clear hr1 hb1 C K0 HB0
  go_wp2_with fail
  refine C1.out.mono ?_
  rintro e w2 ⟨v, rs, d, p2, rfl, hs, hsm, hr, hp2, hrd2, hg2⟩
  obtain ⟨A, n, c, rfl⟩ := hs.form hr
  have K2 := hid (K1.out.kept hg2 (by simp))
  have HX := hid (And.intro hs (And.intro hr hsm))
  have HG2 := hid hg2
  have HD2 := hid hrd2
  clear hs hr hsm hrd2 hg2 C1 K1
  have C2 := hid (someLines_c _ p2 w2 HD2.out (by omega))
  go_wp2_with fail
  refine C2.out.mono ?_
  rintro e w3 ⟨u, l, p3, rfl, hl13, hlf, ho, hp3, hr3, hg3⟩
  obtain ⟨A3, c3, rfl, _, _⟩ := (Sl.of_own ho).form
  replace K2 := hid (K2.out.kept hg3 (by simp))
  have HR3 := hid (HX.out.2.1.newerF hg3 (by omega) (Rows.one (r := ⟨9, 1, l.length, .slice A3 l.length c3, l.map txt⟩) ho) HG2.out.size)
  have HG3 := hid (grown_tr HG2.out hg3)
  have HLF := hid hlf
  clear hr3 hg3 C2 HD2 ho hlf
  have HB2 := hid (HB1.out.trans (below_own HG3.out HB1.out.size (by omega)))
  obtain ⟨q0c, q0f⟩ := K2.out.2 0 _ rfl
  obtain ⟨q1c, q1f⟩ := K2.out.2 1 _ rfl
  obtain ⟨q2c, q2f⟩ := K2.out.2 2 _ rfl
  go_wp2_with fail
  have RB := ((K2.out.set 0 (.int .i64 d.mo)).set 1 (.int .i64 d.ke)).set 2 (.slice A n c)
  have f0 := (RB.2 0 _ rfl).1
  have f1 := (RB.2 1 _ rfl).1
  have f2 := (RB.2 2 _ rfl).1
  refine bodyPost_ret (v := .tuple #[.agg #[.int .i64 d.mo, .int .i64 d.ke, .slice A n c], .slice A3 l.length c3]) (by simp [results, Try.results43, go_sem, f0, f1, f2]) rfl ?_
  refine ⟨_, _, rs, _, d, l, rfl, HX.out.1, HX.out.2.2, rfl, hl13, HLF.out, ?_, ?_⟩
  · refine Rows.base (lo := w1.heap.size) ?_ (by omega)
    iterate 3 refine Rows.low ?_ (by omega)
    exact HR3.out
  · iterate 3 refine Below.setCell ?_ (by simp) _
    exact HB2.out

set_option maxHeartbeats 4000000 in
set_option maxRecDepth 100000 in
/-- alike files -/
theorem equalFiles_c {v v' : Value} {d : Fil} {w : World} (h : FilIn w w.heap.size v d) (h' : FilIn w w.heap.size v' d) (hl : d.li.length ≤ 1000) :
    Calls Try.prog 40 #[v, v'] w (BoolPost w true) := by
  obtain ⟨u, rfl, hu⟩ := h
  obtain ⟨u', rfl, hu'⟩ := h'
  obtain ⟨mo, ke, L⟩ := d
  obtain ⟨A, c, rfl, hnc, hcm⟩ := hu.1.form
  obtain ⟨A', c', rfl, hnc', hcm'⟩ := hu'.1.form
  unfold maxLen at hcm hcm'
  replace hu : StrssIn w w.heap.size (.slice A L.length c) L := hu
  replace hu' : StrssIn w w.heap.size (.slice A' L.length c') L := hu'
  replace hl : L.length ≤ 1000 := hl
  show Calls Try.prog 40 #[.agg #[.int .i64 mo, .int .i64 ke, .slice A L.length c], .agg #[.int .i64 mo, .int .i64 ke, .slice A' L.length c']] w (BoolPost w true)
  generalize hnn : L.length = n at *
  have HU := hid (And.intro hu (And.intro hu' hnn))
  have b0 : (mo != mo) = false := by simp
  have b1 : (ke != ke) = false := by simp
  have b2 : ((n : Int) != (n : Int)) = false := by simp
  have K0 := ((Blk.new w #[.int .i64 mo, .int .i64 ke, .slice A n c] 26).alloc (.cells #[.int .i64 mo, .int .i64 ke, .slice A' n c'] 26))
  have K1 := Blk.new (w.alloc (.cells #[.int .i64 mo, .int .i64 ke, .slice A n c] 26)) #[.int .i64 mo, .int .i64 ke, .slice A' n c'] 26
  have HB0 := hid (show Below w.heap.size w ((w.alloc (.cells #[.int .i64 mo, .int .i64 ke, .slice A n c] 26)).alloc (.cells #[.int .i64 mo, .int .i64 ke, .slice A' n c'] 26)) from ((Below.refl _ _).alloc (Nat.le_refl _) _).alloc (by simp) _)
  simp only [World.size_alloc] at K1
  have HC := hid (And.intro (K0.2 2 _ rfl).1 (And.intro (K1.2 2 _ rfl).1 (And.intro K0.1 K1.1)))
  clear hu hu' hnn K0 K1
  go_enter Try.func40, Try.ntmps40
  go_wp2_with fail
  generalize (w.alloc (.cells #[.int .i64 mo, .int .i64 ke, .slice A n c] 26)).alloc (.cells #[.int .i64 mo, .int .i64 ke, .slice A' n c'] 26) = w0 at *
  go_loopw [5] (fun iv wr => ∃ (i : Nat), iv = .int .i64 i ∧ i ≤ n ∧ Hid (Below w0.heap.size w0 wr)) (fun iv _ => n - (intOf iv).toNat)
  case atStart => exact ⟨0, rfl, Nat.zero_le _, Below.refl _ _⟩
  case round =>
    obtain ⟨i, rfl, hi, HB⟩ := hrel
    have c0 := (HB.out.cell (p := ⟨w.heap.size, 2, none⟩) HC.out.2.2.1).trans HC.out.1
    have c1 := (HB.out.cell (p := ⟨w.heap.size + 1, 2, none⟩) HC.out.2.2.2).trans HC.out.2.1
    have HBw := hid (HB0.out.trans (HB.out.mono HB0.out.size))
    by_cases hlt : i < n
    · obtain ⟨b, o, u, l, rfl, hbB, hx, d0, hin⟩ := (HU.out.1.below HBw.out (Nat.le_refl _)).elem hlt
      obtain ⟨b', o', u', l', rfl, hbB', hx', d1, hin'⟩ := (HU.out.2.1.below HBw.out (Nat.le_refl _)).elem hlt
      obtain rfl : l = l' := by rw [hx] at hx'; exact Option.some.inj hx'
      obtain ⟨A2, k2, rfl, hk2, hm2⟩ := hin.1.form
      obtain ⟨A3, k3, rfl, hk3, hm3⟩ := hin'.1.form
      unfold maxLen at hm2 hm3
      have C := hid (fun (W : World) (hW : Below wr.heap.size wr W) => (show Calls Try.prog 32 #[_, _] W (BoolPost W true) by
        have h9 := equalTexts_c _ _ _ _ w.heap.size l l W (hin.below hW HBw.out.size).1 (hin'.below hW HBw.out.size).1 (Nat.le_trans HBw.out.size hW.size)
        rwa [decide_eq_true (rfl : l = l)] at h9))
      have hi' : (i : Int) < (n : Int) := by omega
      clear hx hx' hin hin'
      go_wp2_with fail
      refine wp_region_held_drew (S := (fun w' : World => w'.cell? ⟨w.heap.size, 2, none⟩ = some (.slice (some ⟨b, o, none⟩) n c) ∧ w'.cell? ⟨w.heap.size + 1, 2, none⟩ = some (.slice (some ⟨b', o', none⟩) n c') ∧ w'.cell? ⟨b, o + i, none⟩ = some (.slice A2 l.length k2) ∧ w'.cell? ⟨b', o' + i, none⟩ = some (.slice A3 l.length k3))) (by kernel_rfl) ⟨c0, c1, d0, d1⟩ (fun hS => ?_)
      refine wpAnyH_take (i := 0) (oi := ?oi101) (v := ?v101) ?hi101 (by kernel_rfl) ?hf101 ?hr101 ?hQ101 (Or.inl ⟨?hw101, ?hy101⟩) (by assumption) ?rest101
      case hi101 => simp only [List.getElem?_toArray, List.getElem?_cons_succ, List.getElem?_cons_zero]; rfl
      case hf101 => kernel_rfl
      case hr101 => kernel_rfl
      case hw101 => rfl
      case hy101 => (intro w hSw; (try dsimp only at hSw); go_simp; all_goals (first | done | with_reducible rfl))
      case hQ101 => exact fun _ _ _ h => h
      simp only [Act.put, List.setIfInBounds_toArray, List.set_cons_zero, List.set_cons_succ]
      refine wpAnyH_take (i := 1) (oi := ?oi102) (v := ?v102) ?hi102 (by kernel_rfl) ?hf102 ?hr102 ?hQ102 (Or.inl ⟨?hw102, ?hy102⟩) (by assumption) ?rest102
      case hi102 => simp only [List.getElem?_toArray, List.getElem?_cons_succ, List.getElem?_cons_zero]; rfl
      case hf102 => kernel_rfl
      case hr102 => kernel_rfl
      case hw102 => rfl
      case hy102 => (intro w hSw; (try dsimp only at hSw); go_simp; all_goals (first | done | with_reducible rfl))
      case hQ102 => exact fun _ _ _ h => h
      simp only [Act.put, List.setIfInBounds_toArray, List.set_cons_zero, List.set_cons_succ]
      refine wpAnyH_take (i := 2) (oi := ?oi103) (v := ?v103) ?hi103 (by kernel_rfl) ?hf103 ?hr103 ?hQ103 (Or.inl ⟨?hw103, ?hy103⟩) (by assumption) ?rest103
      case hi103 => simp only [List.getElem?_toArray, List.getElem?_cons_succ, List.getElem?_cons_zero]; rfl
      case hf103 => kernel_rfl
      case hr103 => kernel_rfl
      case hw103 => rfl
      case hy103 => (intro w hSw; (try dsimp only at hSw); go_simp; all_goals (first | done | with_reducible rfl))
      case hQ103 => exact fun _ _ _ h => h
      simp only [Act.put, List.setIfInBounds_toArray, List.set_cons_zero, List.set_cons_succ]
      refine wpAnyH_take (i := 3) (oi := ?oi104) (v := ?v104) ?hi104 (by kernel_rfl) ?hf104 ?hr104 ?hQ104 (Or.inl ⟨?hw104, ?hy104⟩) (by assumption) ?rest104
      case hi104 => simp only [List.getElem?_toArray, List.getElem?_cons_succ, List.getElem?_cons_zero]; rfl
      case hf104 => kernel_rfl
      case hr104 => kernel_rfl
      case hw104 => rfl
      case hy104 => (intro w hSw; (try dsimp only at hSw); go_simp; all_goals (first | done | with_reducible rfl))
      case hQ104 => exact fun _ _ _ h => h
      simp only [Act.put, List.setIfInBounds_toArray, List.set_cons_zero, List.set_cons_succ]
      refine wpAnyH_take (i := 4) (oi := ?oi105) (v := ?v105) ?hi105 (by kernel_rfl) ?hf105 ?hr105 ?hQ105 (Or.inl ⟨?hw105, ?hy105⟩) (by assumption) ?rest105
      case hi105 => simp only [List.getElem?_toArray, List.getElem?_cons_succ, List.getElem?_cons_zero]; rfl
      case hf105 => kernel_rfl
      case hr105 => kernel_rfl
      case hw105 => rfl
      case hy105 => (intro w hSw; (try dsimp only at hSw); go_simp; all_goals (first | done | with_reducible rfl))
      case hQ105 => exact fun _ _ _ h => h
      simp only [Act.put, List.setIfInBounds_toArray, List.set_cons_zero, List.set_cons_succ]
      refine wpAnyH_take (i := 5) (oi := ?oi106) (v := ?v106) ?hi106 (by kernel_rfl) ?hf106 ?hr106 ?hQ106 (Or.inl ⟨?hw106, ?hy106⟩) (by assumption) ?rest106
      case hi106 => simp only [List.getElem?_toArray, List.getElem?_cons_succ, List.getElem?_cons_zero]; rfl
      case hf106 => kernel_rfl
      case hr106 => kernel_rfl
      case hw106 => rfl
      case hy106 => (intro w hSw; (try dsimp only at hSw); go_simp; all_goals (first | done | with_reducible rfl))
      case hQ106 => exact fun _ _ _ h => h
      simp only [Act.put, List.setIfInBounds_toArray, List.set_cons_zero, List.set_cons_succ]
      refine wpAnyH_take (i := 6) (oi := ?oi107) (v := ?v107) ?hi107 (by kernel_rfl) ?hf107 ?hr107 ?hQ107 (Or.inl ⟨?hw107, ?hy107⟩) (by assumption) ?rest107
      case hi107 => simp only [List.getElem?_toArray, List.getElem?_cons_succ, List.getElem?_cons_zero]; rfl
      case hf107 => kernel_rfl
      case hr107 => kernel_rfl
      case hw107 => rfl
      case hy107 => (intro w hSw; (try dsimp only at hSw); go_simp; all_goals (first | done | with_reducible rfl))
      case hQ107 => exact fun _ _ _ h => h
      simp only [Act.put, List.setIfInBounds_toArray, List.set_cons_zero, List.set_cons_succ]
      refine wpAnyH_take (i := 7) (oi := ?oi108) (v := ?v108) ?hi108 (by kernel_rfl) ?hf108 ?hr108 ?hQ108 (Or.inl ⟨?hw108, ?hy108⟩) (by assumption) ?rest108
      case hi108 => simp only [List.getElem?_toArray, List.getElem?_cons_succ, List.getElem?_cons_zero]; rfl
      case hf108 => kernel_rfl
      case hr108 => kernel_rfl
      case hw108 => rfl
      case hy108 => (intro w hSw; (try dsimp only at hSw); go_simp; all_goals (first | done | with_reducible rfl))
      case hQ108 => exact fun _ _ _ h => h
      simp only [Act.put, List.setIfInBounds_toArray, List.set_cons_zero, List.set_cons_succ]
      refine wpAnyH_take (i := 8) (oi := ?oi109) (v := ?v109) ?hi109 (by kernel_rfl) ?hf109 ?hr109 ?hQ109 (Or.inl ⟨?hw109, ?hy109⟩) (by assumption) ?rest109
      case hi109 => simp only [List.getElem?_toArray, List.getElem?_cons_succ, List.getElem?_cons_zero]; rfl
      case hf109 => kernel_rfl
      case hr109 => kernel_rfl
      case hw109 => rfl
      case hy109 => (intro w hSw; (try dsimp only at hSw); go_simp; all_goals (first | done | with_reducible rfl))
      case hQ109 => exact fun _ _ _ h => h
      simp only [Act.put, List.setIfInBounds_toArray, List.set_cons_zero, List.set_cons_succ]
      refine wpAnyH_take (i := 9) (oi := ?oi110) (v := ?v110) ?hi110 (by kernel_rfl) ?hf110 ?hr110 ?hQ110 (Or.inl ⟨?hw110, ?hy110⟩) (by assumption) ?rest110
      case hi110 => simp only [List.getElem?_toArray, List.getElem?_cons_succ, List.getElem?_cons_zero]; rfl
      case hf110 => kernel_rfl
      case hr110 => kernel_rfl
      case hw110 => rfl
      case hy110 => (intro w hSw; (try dsimp only at hSw); go_simp; all_goals (first | done | with_reducible rfl))
      case hQ110 => exact fun _ _ _ h => h
      simp only [Act.put, List.setIfInBounds_toArray, List.set_cons_zero, List.set_cons_succ]
      refine wpAnyH_ready (rs := [10]) (by kernel_rfl) (by simp) ?_
      refine AllReadyH.cons (o := ?oi111) ?hi111 (fun K hK => ?step111) AllReadyH.nil
      case hi111 => simp only [List.getElem?_toArray, List.getElem?_cons_succ, List.getElem?_cons_zero]; rfl
      rw [if_pos (by rfl)]
      go_simp
      go_at_call 32
      refine (C.out _ (Below.refl _ _).drew).mono ?_
      rintro e w2 ⟨rfl, hb⟩
      have hlw : w.heap.size < wr.heap.size := World.block_lt_of_cell? wr _ c0
      have hlw1 : w.heap.size + 1 < wr.heap.size := World.block_lt_of_cell? wr _ c1
      have hbl : b < wr.heap.size := World.block_lt_of_cell? wr _ d0
      have hbl' : b' < wr.heap.size := World.block_lt_of_cell? wr _ d1
      have HB2 := hid (HB.out.drew.trans (hb.mono HB.out.size))
      refine hK.out _ _ ⟨(hb.cell (p := ⟨w.heap.size, 2, none⟩) hlw).trans c0, (hb.cell (p := ⟨w.heap.size + 1, 2, none⟩) hlw1).trans c1, (hb.cell (p := ⟨b, o + i, none⟩) hbl).trans d0, (hb.cell (p := ⟨b', o' + i, none⟩) hbl').trans d1⟩ (fun hS9 => ?_)
      refine wpAnyH_take (i := 11) (oi := ?oi112) (v := ?v112) ?hi112 (by kernel_rfl) ?hf112 ?hr112 ?hQ112 (Or.inl ⟨?hw112, ?hy112⟩) (by assumption) ?rest112
      case hi112 => simp only [List.getElem?_toArray, List.getElem?_cons_succ, List.getElem?_cons_zero]; rfl
      case hf112 => kernel_rfl
      case hr112 => kernel_rfl
      case hw112 => rfl
      case hy112 => (intro w hSw; (try dsimp only at hSw); go_simp; all_goals (first | done | with_reducible rfl))
      case hQ112 => exact fun _ _ _ h => h
      simp only [Act.put, List.setIfInBounds_toArray, List.set_cons_zero, List.set_cons_succ]
      refine wpAnyH_done (by kernel_rfl) ?_ _
      clear hS hS9 hb c0 c1 d0 d1 C
      go_wp2_with fail
      go_roundw
      case rel => exact ⟨i + 1, by go_num, by omega, HB2.out⟩
      case measure => simp [intOf]; omega
    · go_wp2_with fail
      go_ret
      exact ⟨rfl, HBw.out⟩

/-- does a list end so? -/
def endsL (l t : TxtL) : Bool := decide (t.length ≤ l.length) && decide (l.drop (l.length - t.length) = t)
theorem StrsIn.fromF {w : World} {B n c b o : Nat} {l : TxtL} (h : StrsIn w B (.slice (some ⟨b, o, none⟩) n c) l) {k : Nat} (hk : k ≤ n) : StrsIn w B (.slice (some ⟨b, o + k, none⟩) (n - k) (c - k)) (l.drop k) := by
  obtain ⟨A', c', he, _, _⟩ := h.1.form
  injection he with _ h2 _
  obtain ⟨h1, hf⟩ := h
  rw [← h2] at h1
  have h3 := h1.from_ hk
  rw [Nat.mul_one, ← List.map_drop] at h3
  refine ⟨by rw [List.length_drop, ← h2]; exact h3, by have := hf.1; rw [List.length_drop]; omega, fun t ht => hf.2 t (List.mem_of_mem_drop ht)⟩
theorem StrsIn.zeroF (w : World) (B : Nat) (A : Option Addr) (c : Nat) (hc : c ≤ maxLen) : StrsIn w B (.slice A 0 c) [] :=
  ⟨⟨by simp, A, c, rfl, Nat.zero_le _, hc, fun h => absurd h (by simp)⟩, StrsFit.nil⟩
set_option maxHeartbeats 4000000 in
set_option maxRecDepth 100000 in
theorem endsWith_c {v v' : Value} {l t : TxtL} {w : World} (h : StrsIn w w.heap.size v l) (h' : StrsIn w w.heap.size v' t) (hlm : l.length ≤ 1000) (htm : t.length ≤ 1000) :
    Calls Try.prog 34 #[v, v'] w (BoolPost w (endsL l t)) := by
  obtain ⟨A, c, rfl, hnc, hcm⟩ := h.1.form
  obtain ⟨A', c', rfl, hnc', hcm'⟩ := h'.1.form
  unfold maxLen at hcm hcm'
  have HE := hid (show endsL l t = (decide (t.length ≤ l.length) && decide (l.drop (l.length - t.length) = t)) from rfl)
  generalize endsL l t = z at *
  generalize hn : l.length = n at *
  generalize ht : t.length = tn at *
  by_cases hle : tn ≤ n
  · have hle1 : (tn : Int) ≤ (n : Int) := by omega
    obtain ⟨k, hk⟩ : ∃ k, n = tn + k := ⟨n - tn, by omega⟩
    have HZ := hid (show z = decide (l.drop k = t) by rw [HE.out, decide_eq_true hle, Bool.true_and, show n - tn = k by omega])
    have s0 : (n : Int) - (tn : Int) = (k : Int) := by omega
    have s1 : (0 : Int) ≤ (k : Int) := by omega
    have s2 : ((k : Int)).toNat = k := by omega
    have s3 : (k : Int) ≤ (n : Int) := by omega
    have s4 : (k : Int) ≤ (c : Int) := by omega
    have s5 : k ≤ n := by omega
    have s6 : k ≤ c := by omega
    rcases Nat.eq_zero_or_pos tn with h0 | h0
    · have htn : t = [] := List.eq_nil_of_length_eq_zero (by omega)
      have hkn : k = n := by omega
      have hzt : z = true := by rw [HZ.out, htn, hkn, ← hn, List.drop_length]; rfl
      subst hzt
      subst h0
      have C9 := hid (fun (A2 : Option Addr) (c2 : Nat) (hc2 : c2 ≤ 9223372036854775807) => (show Calls Try.prog 32 #[.slice A2 0 c2, .slice A' 0 c'] w (BoolPost w true) from by
        rw [htn] at h'
        have h9 := equalTexts_c _ _ _ _ w.heap.size [] [] w (StrsIn.zeroF w w.heap.size A2 c2 (by unfold maxLen; omega)).1 h'.1 (Nat.le_refl _)
        rwa [decide_eq_true (rfl : ([] : TxtL) = [])] at h9))
      subst hkn
      have hA0 := h.1
      rw [hn] at hA0
      obtain ⟨_, _, _, e9, _, _, hx9⟩ := hA0
      injection e9 with e1 e2 e3
      subst e1
      have w0 : IntKind.i64.wrap ((k : Int) - 0) = (k : Int) := by rw [IntKind.wrap_i64] <;> omega
      have w1 : (k : Int) - 0 = (k : Int) := by omega
      rcases Nat.eq_zero_or_pos k with hk0 | hk0
      · subst hk0
        clear HZ HE h h' hn ht htn hx9 e2 e3 hk hle hle1 s0 s1 s2 s3 s4 s5 s6 w0 w1
        rcases A with _ | ⟨b, o, m⟩
        all_goals
          by_cases hc0 : c = 0
          all_goals
            (try subst hc0)
            go_enter Try.func34, Try.ntmps34
            go_wp2_with fail
            refine (C9.out _ _ (by omega)).mono ?_
            rintro e w1 ⟨rfl, hb⟩
            have HB := hid hb
            clear hb
            go_wp2_with fail
            go_ret
            exact ⟨rfl, HB.out⟩
      · obtain ⟨b, o, e8, _, _⟩ := hx9 hk0
        subst e8
        clear HZ HE h h' hn ht htn hx9 e2 e3 hk s0
        by_cases hc0 : c = k
        all_goals
          (try subst hc0)
          go_enter Try.func34, Try.ntmps34
          go_wp2_with fail
          refine (C9.out _ _ (by omega)).mono ?_
          rintro e w1 ⟨rfl, hb⟩
          have HB := hid hb
          clear hb
          go_wp2_with fail
          go_ret
          exact ⟨rfl, HB.out⟩
    · have hA0 := h.1
      rw [hn] at hA0
      obtain ⟨_, _, _, e9, _, _, hx9⟩ := hA0
      injection e9 with e1 e2 e3
      subst e1
      obtain ⟨b, o, e8, _, _⟩ := hx9 (by omega)
      subst e8
      have hck : ¬ c = k := by omega
      have CE := hid (show Calls Try.prog 32 #[.slice (some ⟨b, o + k, none⟩) (n - k) (c - k), .slice A' tn c'] w (BoolPost w z) by
        rw [HZ.out]
        exact equalTexts_c _ _ _ _ w.heap.size _ t w ((show StrsIn w w.heap.size (.slice (some ⟨b, o, none⟩) n c) l from h).fromF s5).1 h'.1 (Nat.le_refl _))
      clear HZ HE h h' hn ht hx9 e2 e3
      replace hk := hid hk
      go_enter Try.func34, Try.ntmps34
      go_wp2_with fail
      refine CE.out.mono ?_
      rintro e w1 ⟨rfl, hb⟩
      have HB := hid hb
      clear hb
      cases z
      all_goals
        go_wp2_with fail
        go_ret
        exact ⟨rfl, HB.out⟩
  · have hzf : z = false := by rw [HE.out, decide_eq_false hle]; rfl
    subst hzf
    have hle1 : ¬ (tn : Int) ≤ (n : Int) := by omega
    clear HE h h' hn ht
    go_enter Try.func34, Try.ntmps34
    go_wp2_with fail
    go_ret
    exact ⟨rfl, Below.refl _ _⟩
end Go.Proofs.Ytoiagfdhanhnkaa
