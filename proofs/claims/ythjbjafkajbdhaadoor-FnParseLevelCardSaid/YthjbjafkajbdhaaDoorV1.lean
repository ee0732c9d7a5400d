/-
  LEVELS: numbers in decimal; LevelName of both.
-/
import Derived.Test.YthjbjafkajbdhaaDoorBase
import Derived.Laws.DeepStrings4
namespace Go.Proofs.YthjbjafkajbdhaaDoor
open Go.RowKit Nm
set_option linter.unusedSimpArgs false
set_option linter.unusedVariables false
def dg (k : Nat) : UInt8 := UInt8.ofNat (48 + k)
def digs (n : Nat) : List UInt8 := if n < 10 then [dg n] else [dg (n / 10), dg (n % 10)]
theorem all_lt (p : Nat → Prop) [DecidablePred p] (m : Nat) (h : (List.range m).all (fun n => decide (p n)) = true) (n : Nat) (hn : n < m) : p n := by
  have := List.all_eq_true.1 h n (List.mem_range.2 hn)
  simpa using this
set_option maxHeartbeats 1000000 in
set_option maxRecDepth 100000 in
theorem small_c (n : Nat) (hn : n < 100) (w : World) : Calls Tryd.prog 64 #[.int .i64 n] w fun e w' => e = .returned (.string ⟨(digs n).toArray⟩) ∧ w = w' := by
  by_cases h : n < 10
  · have h1 : (n : Int) < 10 := by omega
    have q1 : IntKind.i64.wrap ((n : Int) + 1) = ((n + 1 : Nat) : Int) := by rw [IntKind.wrap_i64] <;> omega
    have q2 : (0 : Int) ≤ n := by omega
    have q3 : (n : Int) ≤ (n : Int) + 1 := by omega
    have q4 : (0 : Int) ≤ (n : Int) + 1 := by omega
    have q5 : (n : Int) + 1 ≤ 36 := by omega
    have q6 : ((n : Int) + 1).toNat = n + 1 := by omega
    go_enter Tryd.func64, Tryd.ntmps64
    go_wp2_with fail
    go_ret
    exact ⟨ret_str (all_lt (fun n => ByteArray.extract _ n (n + 1) = ⟨(digs n).toArray⟩) 10 (by decide +kernel) n h), rfl⟩
  · have h1 : ¬ (n : Int) < 10 := by omega
    have q1 : IntKind.i64.wrap ((n : Int) * 2) = ((n * 2 : Nat) : Int) := by rw [IntKind.wrap_i64] <;> omega
    have q2 : IntKind.i64.wrap ((((n * 2 : Nat) : Int)) + 2) = ((n * 2 + 2 : Nat) : Int) := by rw [IntKind.wrap_i64] <;> omega
    have q3 : (0 : Int) ≤ n := by omega
    have q4 : (0 : Int) ≤ (n : Int) * 2 := by omega
    have q5 : (n : Int) * 2 + 2 ≤ 200 := by omega
    have q6 : ((n : Int) * 2 + 2).toNat = n * 2 + 2 := by omega
    have q7 : ((n : Int) * 2).toNat = n * 2 := by omega
    have q8 : (0 : Int) ≤ (n : Int) * 2 + 2 := by omega
    have q9 : (n : Int) * 2 ≤ (n : Int) * 2 + 2 := by omega
    go_enter Tryd.func64, Tryd.ntmps64
    go_wp2_with fail
    go_ret
    refine ⟨ret_str ((all_lt (fun n => n < 10 ∨ ByteArray.extract _ (n * 2) (n * 2 + 2) = ⟨(digs n).toArray⟩) 100 ?_ n hn).resolve_left h), rfl⟩
    decide +kernel
set_option maxHeartbeats 1000000 in
set_option maxRecDepth 100000 in
theorem formatInt_c (n : Nat) (hn : n < 100) (w : World) : Calls Tryd.prog 52 #[.int .i64 n, .int .i64 10] w fun e w' => e = .returned (.string ⟨(digs n).toArray⟩) ∧ w = w' := by
  have C := hid (fun W => small_c n hn W)
  have h1 : (0 : Int) ≤ n := by omega
  have h2 : (n : Int) < 100 := by omega
  go_enter Tryd.func52, Tryd.ntmps52
  go_wp2_with fail
  refine (C.out _).mono ?_
  rintro e w1 ⟨rfl, rfl⟩
  go_wp2_with fail
  go_ret
  exact ⟨rfl, rfl⟩
set_option maxHeartbeats 1000000 in
set_option maxRecDepth 100000 in
theorem itoa0_c (n : Nat) (hn : n < 100) (w : World) : Calls Tryd.prog 34 #[.int .i64 n] w fun e w' => e = .returned (.string ⟨(digs n).toArray⟩) ∧ w = w' := by
  have C := hid (fun W => formatInt_c n hn W)
  have h1 : (0 : Int) ≤ n := by omega
  have h2 : (n : Int) < 100 := by omega
  go_enter Tryd.func34, Tryd.ntmps34
  go_wp2_with fail
  refine (C.out _).mono ?_
  rintro e w1 ⟨rfl, rfl⟩
  go_wp2_with fail
  go_ret
  exact ⟨rfl, rfl⟩
set_option maxHeartbeats 1000000 in
set_option maxRecDepth 100000 in
theorem itoa_c (n : Nat) (hn : n < 100) (w : World) : Calls Tryd.prog 21 #[.int .i64 n] w fun e w' => e = .returned (.string ⟨(digs n).toArray⟩) ∧ w = w' := by
  have C := hid (fun W => itoa0_c n hn W)
  go_enter Tryd.func21, Tryd.ntmps21
  go_wp2_with fail
  refine (C.out _).mono ?_
  rintro e w1 ⟨rfl, rfl⟩
  go_wp2_with fail
  go_ret
  exact ⟨rfl, rfl⟩
set_option maxHeartbeats 1000000 in
set_option maxRecDepth 100000 in
theorem number1_c (n : Nat) (hn : n < 10) (w : World) : Calls Tryd.prog 33 #[.int .i64 n] w fun e w' => e = .returned (.string ⟨(digs n).toArray⟩) ∧ w = w' := by
  have h1 : (n : Int) < 10 := by omega
  have q1 : IntKind.i64.wrap ((n : Int) + 1) = ((n + 1 : Nat) : Int) := by rw [IntKind.wrap_i64] <;> omega
  have q2 : (0 : Int) ≤ n := by omega
  have q3 : (n : Int) ≤ (n : Int) + 1 := by omega
  have q4 : (0 : Int) ≤ (n : Int) + 1 := by omega
  have q5 : (n : Int) + 1 ≤ 10 := by omega
  have q6 : ((n : Int) + 1).toNat = n + 1 := by omega
  go_enter Tryd.func33, Tryd.ntmps33
  go_wp2_with fail
  go_ret
  exact ⟨ret_str (all_lt (fun n => ByteArray.extract _ n (n + 1) = ⟨(digs n).toArray⟩) 10 (by decide +kernel) n hn), rfl⟩
set_option maxHeartbeats 1000000 in
set_option maxRecDepth 100000 in
theorem number_c (n : Nat) (hn : n < 100) (w : World) : Calls Tryd.prog 33 #[.int .i64 n] w fun e w' => e = .returned (.string ⟨(digs n).toArray⟩) ∧ w = w' := by
  by_cases h : n < 10
  · exact number1_c n h w
  · have h1 : ¬ (n : Int) < 10 := by omega
    have C1 := hid (fun W => number1_c (n / 10) (by omega) W)
    have C2 := hid (fun W => number1_c (n % 10) (by omega) W)
    have d1 : digs (n / 10) = [dg (n / 10)] := by unfold digs; rw [if_pos (by omega)]
    have d2 : digs (n % 10) = [dg (n % 10)] := by unfold digs; rw [if_pos (by omega)]
    have d3 := hid (show digs n = [dg (n / 10), dg (n % 10)] by unfold digs; rw [if_neg h])
    rw [d1] at C1; rw [d2] at C2
    clear d1 d2
    go_enter Tryd.func33, Tryd.ntmps33
    go_wp2_with fail
    refine (C1.out _).mono ?_
    rintro e w1 ⟨rfl, rfl⟩
    go_wp2_with fail
    refine (C2.out _).mono ?_
    rintro e w1 ⟨rfl, rfl⟩
    go_wp2_with fail
    go_ret
    exact ⟨ret_str (by rw [d3.out]; apply ByteArray.ext; simp), rfl⟩
def lvN (n : Nat) : List UInt8 := if n = 10 then [100, 101, 98, 117, 103] else if n = 20 then [105, 110, 102, 111] else if n = 30 then [119, 97, 114, 110] else if n = 40 then [101, 114, 114, 111, 114] else if n = 50 then [102, 97, 116, 97, 108] else digs n
def lvL (z : Int) : List UInt8 := if 0 ≤ z ∧ z ≤ 60 then lvN z.toNat else []
theorem lvN_digs {n : Nat} (h0 : n ≠ 10) (h1 : n ≠ 20) (h2 : n ≠ 30) (h3 : n ≠ 40) (h4 : n ≠ 50) : lvN n = digs n := by
  unfold lvN; rw [if_neg h0, if_neg h1, if_neg h2, if_neg h3, if_neg h4]
def LvPost (w : World) (l : List UInt8) (e : Ending) (w' : World) : Prop := e = .returned (.string ⟨l.toArray⟩) ∧ Below w.heap.size w w'
theorem isLevelV_c (z : Int) (w : World) : Calls Tryd.prog 20 #[.int .i64 z] w fun e w' => e = .returned (.bool (decide (0 ≤ z) && decide (z ≤ 60))) ∧ w = w' := by
  go_enter Tryd.func20, Tryd.ntmps20
  go_wp2_with fail
  all_goals go_ret
  all_goals exact ⟨ret_bool (by first | (simp_all; done) | (simp_all <;> intros <;> omega)), rfl⟩
theorem inRangeV_c (z a b : Int) (w : World) : Calls Tryd.prog 18 #[.int .i64 z, .int .i64 a, .int .i64 b] w fun e w' => e = .returned (.bool (decide (a ≤ z) && decide (z ≤ b))) ∧ w = w' := by
  go_enter Tryd.func18, Tryd.ntmps18
  go_wp2_with fail
  all_goals go_ret
  all_goals exact ⟨ret_bool (by first | (simp_all; done) | (simp_all <;> intros <;> omega)), rfl⟩
set_option maxHeartbeats 1000000 in
set_option maxRecDepth 100000 in
theorem implLevelName_c (z : Int) (w : World) : Calls Tryd.prog 9 #[.int .i64 z] w (LvPost w (lvL z)) := by
  have C := hid (fun W => isLevelV_c z W)
  have fin : ∀ l, l = lvL z → LvPost w (lvL z) (.returned (.string ⟨l.toArray⟩)) w := fun l h => ⟨by rw [h], Below.refl _ _⟩
  replace fin := hid fin
  rcases (show z = 10 ∨ z = 20 ∨ z = 30 ∨ z = 40 ∨ z = 50 ∨ (z ≠ 10 ∧ z ≠ 20 ∧ z ≠ 30 ∧ z ≠ 40 ∧ z ≠ 50) by omega) with rfl | rfl | rfl | rfl | rfl | ⟨h1, h2, h3, h4, h5⟩
  iterate 5
    · go_enter Tryd.func9, Tryd.ntmps9
      go_wp2_with fail
      go_ret
      exact fin.out _ (by decide)
  have b1 : (z == 10) = false := by simpa using h1
  have b2 : (z == 20) = false := by simpa using h2
  have b3 : (z == 30) = false := by simpa using h3
  have b4 : (z == 40) = false := by simpa using h4
  have b5 : (z == 50) = false := by simpa using h5
  by_cases hz : 0 ≤ z ∧ z ≤ 60
  · obtain ⟨n, rfl⟩ : ∃ n : Nat, z = n := ⟨z.toNat, by omega⟩
    have I := hid (fun W => itoa_c n (by omega) W)
    have g := hid (show lvL n = digs n by unfold lvL; rw [if_pos hz]; exact lvN_digs (by simp; omega) (by simp; omega) (by simp; omega) (by simp; omega) (by simp; omega))
    have p1 : decide ((0 : Int) ≤ n) = true := decide_eq_true hz.1
    have p2 : decide ((n : Int) ≤ 60) = true := decide_eq_true hz.2
    rw [p1, p2] at C
    clear h1 h2 h3 h4 h5 hz p1 p2
    go_enter Tryd.func9, Tryd.ntmps9
    go_wp2_with fail
    refine (C.out _).mono ?_
    rintro e w1 ⟨rfl, rfl⟩
    go_wp2_with fail
    refine (I.out _).mono ?_
    rintro e w1 ⟨rfl, rfl⟩
    go_wp2_with fail
    go_ret
    exact fin.out _ g.out.symm
  · have g := hid (show lvL z = [] by unfold lvL; rw [if_neg hz])
    have p : (decide (0 ≤ z) && decide (z ≤ 60)) = false := by rw [← Bool.decide_and]; exact decide_eq_false hz
    rw [p] at C
    clear h1 h2 h3 h4 h5 hz p
    go_enter Tryd.func9, Tryd.ntmps9
    go_wp2_with fail
    refine (C.out _).mono ?_
    rintro e w1 ⟨rfl, rfl⟩
    go_wp2_with fail
    go_ret
    exact fin.out _ g.out.symm
def fiveNames : List (List UInt8) := [[100, 101, 98, 117, 103], [105, 110, 102, 111], [119, 97, 114, 110], [101, 114, 114, 111, 114], [102, 97, 116, 97, 108]]
def FivePost (w : World) (e : Ending) (w' : World) : Prop :=
  ∃ b, e = .returned (.slice (some ⟨b, 0, none⟩) 5 5) ∧ (w'.cell? ⟨b, 0, none⟩ = some (.string ⟨#[100, 101, 98, 117, 103]⟩) ∧ w'.cell? ⟨b, 1, none⟩ = some (.string ⟨#[105, 110, 102, 111]⟩) ∧ w'.cell? ⟨b, 2, none⟩ = some (.string ⟨#[119, 97, 114, 110]⟩) ∧ w'.cell? ⟨b, 3, none⟩ = some (.string ⟨#[101, 114, 114, 111, 114]⟩) ∧ w'.cell? ⟨b, 4, none⟩ = some (.string ⟨#[102, 97, 116, 97, 108]⟩)) ∧ Below w.heap.size w w'
theorem five_new (w : World) : FivePost w (.returned (.slice (some ⟨w.heap.size, 0, none⟩) 5 5)) (w.alloc (.cells (fiveNames.map txt).toArray 9)) :=
  ⟨_, rfl, ⟨cell_of_row _ _ 0 _ _ _ (heap_alloc_new w _), cell_of_row _ _ 1 _ _ _ (heap_alloc_new w _), cell_of_row _ _ 2 _ _ _ (heap_alloc_new w _), cell_of_row _ _ 3 _ _ _ (heap_alloc_new w _), cell_of_row _ _ 4 _ _ _ (heap_alloc_new w _)⟩, (Below.refl _ _).alloc (Nat.le_refl _) _⟩
set_option maxHeartbeats 1000000 in
set_option maxRecDepth 100000 in
theorem levelNames_c (w : World) : Calls Tryd.prog 32 #[] w (FivePost w) := by
  have F := hid (five_new w)
  go_enter Tryd.func32, Tryd.ntmps32
  go_wp2_with fail
  go_ret
  exact F.out
set_option maxHeartbeats 1000000 in
set_option maxRecDepth 100000 in
theorem specLevelName0_c (n : Nat) (hn : n ≤ 60) (w : World) : Calls Tryd.prog 19 #[.int .i64 n] w (LvPost w (lvN n)) := by
  have C := hid (fun W => inRangeV_c n 10 50 W)
  have I := hid (fun (h : lvN n = digs n) W => (show Calls Tryd.prog 33 #[.int .i64 n] W fun e w' => e = .returned (.string ⟨(lvN n).toArray⟩) ∧ W = w' by have := number_c n (by omega) W; rwa [← h] at this))
  have D := hid (levelNames_c w)
  rcases (show n = 10 ∨ n = 20 ∨ n = 30 ∨ n = 40 ∨ n = 50 ∨ n = 0 ∨ n = 60 ∨ n % 10 ≠ 0 by omega) with rfl | rfl | rfl | rfl | rfl | rfl | rfl | h1
  iterate 5
    · go_enter Tryd.func19, Tryd.ntmps19
      go_wp2_with fail
      refine (C.out _).mono ?_
      rintro e w1 ⟨rfl, rfl⟩
      go_wp2_with fail
      refine D.out.mono ?_
      rintro e w1 ⟨b, rfl, ⟨k0, k1, k2, k3, k4⟩, hb⟩
      have HB := hid hb
      clear hb
      go_wp2_with fail
      go_ret
      exact ⟨rfl, HB.out⟩
  iterate 2
    · replace I := hid (I.out rfl)
      go_enter Tryd.func19, Tryd.ntmps19
      go_wp2_with fail
      refine (C.out _).mono ?_
      rintro e w1 ⟨rfl, rfl⟩
      go_wp2_with fail
      refine (I.out _).mono ?_
      rintro e w1 ⟨rfl, rfl⟩
      go_wp2_with fail
      go_ret
      exact ⟨rfl, Below.refl _ _⟩
  · replace I := hid (I.out (lvN_digs (by omega) (by omega) (by omega) (by omega) (by omega)))
    generalize lvN n = l at *
    go_enter Tryd.func19, Tryd.ntmps19
    go_wp2_with fail
    refine (I.out _).mono ?_
    rintro e w1 ⟨rfl, rfl⟩
    go_wp2_with fail
    go_ret
    exact ⟨rfl, Below.refl _ _⟩
set_option maxHeartbeats 1000000 in
set_option maxRecDepth 100000 in
theorem specLevelName_c (z : Int) (w : World) : Calls Tryd.prog 8 #[.int .i64 z] w (LvPost w (lvL z)) := by
  have C := hid (fun W => inRangeV_c z 0 60 W)
  by_cases hz : 0 ≤ z ∧ z ≤ 60
  · obtain ⟨n, rfl⟩ : ∃ n : Nat, z = n := ⟨z.toNat, by omega⟩
    have I := hid (specLevelName0_c n (by omega) w)
    have g : lvL n = lvN n := by unfold lvL; rw [if_pos hz]; rfl
    have p1 : decide ((0 : Int) ≤ n) = true := decide_eq_true hz.1
    have p2 : decide ((n : Int) ≤ 60) = true := decide_eq_true hz.2
    rw [p1, p2] at C
    rw [g]
    generalize lvN n = l at *
    clear hz p1 p2 g
    go_enter Tryd.func8, Tryd.ntmps8
    go_wp2_with fail
    refine (C.out _).mono ?_
    rintro e w1 ⟨rfl, rfl⟩
    go_wp2_with fail
    refine I.out.mono ?_
    rintro e w1 ⟨rfl, hb⟩
    have HB := hid hb
    clear hb
    go_wp2_with fail
    go_ret
    exact ⟨rfl, HB.out⟩
  · have g : lvL z = [] := by unfold lvL; rw [if_neg hz]
    have p : (decide (0 ≤ z) && decide (z ≤ 60)) = false := by rw [← Bool.decide_and]; exact decide_eq_false hz
    rw [p] at C
    rw [g]
    clear hz p g
    go_enter Tryd.func8, Tryd.ntmps8
    go_wp2_with fail
    refine (C.out _).mono ?_
    rintro e w1 ⟨rfl, rfl⟩
    go_wp2_with fail
    go_ret
    exact ⟨rfl, Below.refl _ _⟩
theorem lvL_nat {n : Nat} (h : n ≤ 60) : lvL n = lvN n := by unfold lvL; rw [if_pos (by omega)]; rfl
/-- the level of a name -/
def lvF (s : List UInt8) : Option Nat := (List.range 61).find? fun n => decide (lvN n = s)
theorem find_first (p : Nat → Bool) (m k : Nat) (hk : k < m) (h : p k = true) (hn : ∀ j, j < k → p j = false) : (List.range m).find? p = some k := by
  rw [List.find?_range_eq_some]
  exact ⟨h, List.mem_range.2 hk, fun j hj => by rw [hn j hj]; rfl⟩
theorem lvF_hit {s : List UInt8} {k : Nat} (hk : k ≤ 60) (h : lvN k = s) (hn : ∀ j, j < k → lvN j ≠ s) : lvF s = some k :=
  find_first _ _ _ (by omega) (by simpa using h) (fun j hj => by simpa using hn j hj)
theorem lvF_none {s : List UInt8} (hn : ∀ j, j < 61 → lvN j ≠ s) : lvF s = none := by
  unfold lvF
  rw [List.find?_eq_none]
  intro x hx
  simpa using hn x (List.mem_range.1 hx)
theorem lvF_some {s : List UInt8} {k : Nat} (h : lvF s = some k) : lvN k = s ∧ k ≤ 60 := by
  unfold lvF at h
  have h1 := List.find?_some h
  have h2 := List.mem_range.1 (List.mem_of_find?_eq_some h)
  exact ⟨by simpa using h1, by omega⟩
theorem lvF_name {k : Nat} (h : k ≤ 60) : lvF (lvN k) = some k := all_lt (fun k => lvF (lvN k) = some k) 61 (by decide +kernel) k (by omega)
theorem lvN_ne {k : Nat} (h : k ≤ 60) : lvN k ≠ [] := all_lt (fun k => lvN k ≠ []) 61 (by decide +kernel) k (by omega)
def LfPost (w : World) (o : Option Nat) (e : Ending) (w' : World) : Prop := e = .returned (.tuple #[.int .i64 ((o.getD 0 : Nat) : Int), .bool o.isSome]) ∧ Below w.heap.size w w'
set_option maxHeartbeats 1000000 in
set_option maxRecDepth 100000 in
theorem implParseLevel_c (s : ByteArray) (w : World) : Calls Tryd.prog 11 #[.string s] w (LfPost w (lvF s.data.toList)) := by
  have fin := hid (fun (k : Nat) (W : World) (hb : Below w.heap.size w W) (hk : k ≤ 60) (h : lvN k = s.data.toList) (hn : ∀ j, j < k → lvN j ≠ s.data.toList) => (show LfPost w (lvF s.data.toList) (.returned (.tuple #[.int .i64 (k : Int), .bool true])) W from ⟨by rw [lvF_hit hk h hn]; rfl, hb⟩))
  have non := hid (fun (W : World) (hb : Below w.heap.size w W) (hn : ∀ j, j < 61 → lvN j ≠ s.data.toList) => (show LfPost w (lvF s.data.toList) (.returned (.tuple #[.int .i64 0, .bool false])) W from ⟨by rw [lvF_none hn]; rfl, hb⟩))
  generalize lvF s.data.toList = o at *
  go_enter Tryd.func11, Tryd.ntmps11
  go_wp2_with fail
  go_loopw [4, 5] (fun lv iv wr => ∃ (k : Nat), iv = .int .i64 k ∧ k ≤ 61 ∧ Hid (∀ j, j < k → lvN j ≠ s.data.toList) ∧ Hid (Below w.heap.size w wr)) (fun _ iv _ => 61 - (intOf iv).toNat)
  case atStart => exact ⟨0, rfl, by omega, (fun j hj => absurd hj (by omega)), Below.refl _ _⟩
  case round =>
    obtain ⟨k, rfl, hk, HN, HB⟩ := hrel
    by_cases hlt : k < 61
    · have C := hid (implLevelName_c k wr)
      rw [lvL_nat (by omega)] at C
      unfold LvPost at C
      obtain ⟨X, hX⟩ : ∃ X : ByteArray, X = ⟨(lvN k).toArray⟩ := ⟨_, rfl⟩
      rw [← hX] at C
      have hXl := hid (show X.data.toList = lvN k by rw [hX])
      clear hX
      go_wp2_with fail
      refine C.out.mono ?_
      rintro e w1 ⟨rfl, hb⟩
      have HB1 := hid (HB.out.trans (hb.mono HB.out.size))
      clear hb C
      by_cases he : X.data.toList = s.data.toList
      · have e1 := eq_true_of he
        have HE := hid he
        clear he
        go_wp2_with fail
        go_ret2
        exact fin.out k _ HB1.out (by omega) (by rw [← hXl.out]; exact HE.out) HN.out
      · have e1 := eq_false_of he
        have HE := hid he
        clear he
        go_wp2_with fail
        go_roundw
        case rel => exact ⟨k + 1, by go_num, by omega, (fun j hj => by
          rcases Nat.lt_or_ge j k with h9 | h9
          · exact HN.out j h9
          · rw [show j = k by omega, ← hXl.out]; exact HE.out), HB1.out⟩
        case measure => simp [intOf]; omega
    · have : k = 61 := by omega
      subst this
      go_wp2_with fail
      go_ret2
      exact non.out _ HB.out HN.out
set_option maxHeartbeats 1000000 in
set_option maxRecDepth 100000 in
theorem specParseLevel0_c (s : ByteArray) (w : World) : Calls Tryd.prog 22 #[.string s] w fun e w' => e = .returned (.int .i64 (match lvF s.data.toList with | some k => (k : Int) | none => -1)) ∧ Below w.heap.size w w' := by
  have fin := hid (fun (k : Nat) (hk : k ≤ 60) (h : lvN k = s.data.toList) (hn : ∀ j, j < k → lvN j ≠ s.data.toList) => (show (match lvF s.data.toList with | some k => (k : Int) | none => -1) = (k : Int) by rw [lvF_hit hk h hn]))
  have non := hid (fun (hn : ∀ j, j < 61 → lvN j ≠ s.data.toList) => (show (match lvF s.data.toList with | some k => (k : Int) | none => -1) = -1 by rw [lvF_none hn]))
  generalize (match lvF s.data.toList with | some k => (k : Int) | none => -1) = o at *
  go_enter Tryd.func22, Tryd.ntmps22
  go_wp2_with fail
  go_loopw [3] (fun iv wr => ∃ (k : Nat), iv = .int .i64 k ∧ k ≤ 61 ∧ Hid (∀ j, j < k → lvN j ≠ s.data.toList) ∧ Hid (Below w.heap.size w wr)) (fun iv _ => 61 - (intOf iv).toNat)
  case atStart => exact ⟨0, rfl, by omega, (fun j hj => absurd hj (by omega)), Below.refl _ _⟩
  case round =>
    obtain ⟨k, rfl, hk, HN, HB⟩ := hrel
    by_cases hlt : k < 61
    · have hle : (k : Int) ≤ 60 := by omega
      have C := hid (specLevelName0_c k (by omega) wr)
      unfold LvPost at C
      obtain ⟨X, hX⟩ : ∃ X : ByteArray, X = ⟨(lvN k).toArray⟩ := ⟨_, rfl⟩
      rw [← hX] at C
      have hXl := hid (show X.data.toList = lvN k by rw [hX])
      clear hX
      go_wp2_with fail
      refine C.out.mono ?_
      rintro e w1 ⟨rfl, hb⟩
      have HB1 := hid (HB.out.trans (hb.mono HB.out.size))
      clear hb C
      by_cases he : X.data.toList = s.data.toList
      · have e1 := eq_true_of he
        have HE := hid he
        clear he
        go_wp2_with fail
        go_ret
        exact ⟨ret_int (fin.out k (by omega) (by rw [← hXl.out]; exact HE.out) HN.out).symm, HB1.out⟩
      · have e1 := eq_false_of he
        have HE := hid he
        clear he
        go_wp2_with fail
        go_roundw
        case rel => exact ⟨k + 1, by go_num, by omega, (fun j hj => by
          rcases Nat.lt_or_ge j k with h9 | h9
          · exact HN.out j h9
          · rw [show j = k by omega, ← hXl.out]; exact HE.out), HB1.out⟩
        case measure => simp [intOf]; omega
    · have : k = 61 := by omega
      subst this
      go_wp2_with fail
      go_ret
      exact ⟨ret_int (non.out HN.out).symm, HB.out⟩
set_option maxHeartbeats 1000000 in
set_option maxRecDepth 100000 in
theorem specParseLevel_c (s : ByteArray) (w : World) : Calls Tryd.prog 10 #[.string s] w (LfPost w (lvF s.data.toList)) := by
  have C := hid (specParseLevel0_c s w)
  cases h : lvF s.data.toList with
  | none =>
    rw [h] at C
    clear h
    go_enter Tryd.func10, Tryd.ntmps10
    go_wp2_with fail
    refine C.out.mono ?_
    rintro e w1 ⟨rfl, hb⟩
    have HB := hid hb
    clear hb
    go_wp2_with fail
    go_ret2
    exact ⟨rfl, HB.out⟩
  | some k =>
    rw [h] at C
    have hk : ¬ (k : Int) < 0 := by omega
    clear h
    go_enter Tryd.func10, Tryd.ntmps10
    go_wp2_with fail
    refine C.out.mono ?_
    rintro e w1 ⟨rfl, hb⟩
    have HB := hid hb
    clear hb
    go_wp2_with fail
    go_ret2
    exact ⟨rfl, HB.out⟩
end Go.Proofs.YthjbjafkajbdhaaDoor
