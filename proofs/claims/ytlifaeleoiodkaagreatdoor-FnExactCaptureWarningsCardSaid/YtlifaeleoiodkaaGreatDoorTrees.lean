/-
  T1, T2, T3, T4, T5, T6, T7, T8, T9, T10 laid together.
-/
import Derived.Test.YtlifaeleoiodkaaGreatDoorBase
import Derived.Deep.RegionWith
import Derived.Deep.QuietTactic
import Derived.BigQuiet
import Derived.Deep.RegionHeld3
/-
  TREES: the model (handlers, loggers, when they are valid), and how they lie in memory.
-/
namespace Go.Proofs.YtlifaeleoiodkaaGreatDoor
open Go.RowKit Nm
set_option linter.unusedSimpArgs false
set_option linter.unusedVariables false

/-- the most bytes of a text that comes in -/
def maxTxt : Nat := 1048576
structure Hnd where
  nm : List UInt8
  lv : Int
  fs : List Flt
structure Lgr where
  nm : List UInt8
  lv : Int
  hs : List (List UInt8)
  fs : List Flt
  stop : Bool
  off : Bool
def lvOk (n : Int) : Bool := decide (0 ≤ n) && decide (n ≤ 60)
def lastL : List UInt8 := [108, 97, 115, 116]
def hndOk (h : Hnd) : Bool := wordOk h.nm && (!decide (h.nm = lastL) && (lvOk h.lv && filtersOk h.fs))
def hndsOk (hs : List Hnd) : Bool := hs.all hndOk && (decide (hs.map (·.nm)).Nodup && decide (hs.length ≤ 6))
def hasL (hs : List Hnd) (x : List UInt8) : Bool := hs.any fun h => decide (h.nm = x)
def lgrOk (hs : List Hnd) (l : Lgr) : Bool := nameOk l.nm && (lvOk l.lv && (filtersOk l.fs && (l.hs.all (hasL hs) && decide l.hs.Nodup)))
def lgrsOk (hs : List Hnd) (ls : List Lgr) : Bool := ls.all (lgrOk hs) && (decide (ls.map (·.nm)).Nodup && (decide (1 ≤ ls.length) && (decide (ls.length ≤ 8) && decide ((ls.map (·.nm))[0]? = some []))))
def treeOk (ls : List Lgr) (hs : List Hnd) (q : Int) : Bool := lvOk q && (hndsOk hs && lgrsOk hs ls)

/-- elements of equal width, one behind the other -/
theorem flat_len {α : Type} (f : α → List Value) (d : Nat) (hf : ∀ x, (f x).length = d) (l : List α) : (l.flatMap f).length = l.length * d := by
  induction l with
  | nil => simp
  | cons a l ih => rw [List.flatMap_cons, List.length_append, hf, ih, List.length_cons, Nat.add_mul]; omega
theorem flat_at {α : Type} (f : α → List Value) (d : Nat) (hf : ∀ x, (f x).length = d) (l : List α) (i j : Nat) (x : α) (h : l[i]? = some x) (hj : j < d) : (l.flatMap f)[i * d + j]? = (f x)[j]? := by
  induction l generalizing i with
  | nil => simp at h
  | cons g l ih =>
    cases i with
    | zero =>
      simp only [List.getElem?_cons_zero, Option.some.injEq] at h
      subst h
      rw [List.flatMap_cons, Nat.zero_mul, Nat.zero_add, List.getElem?_append_left (by rw [hf]; exact hj)]
    | succ i =>
      have := ih i (by simpa using h)
      rw [List.flatMap_cons, List.getElem?_append_right (by rw [hf, Nat.add_mul]; omega), hf, show (i + 1) * d + j - d = i * d + j by rw [Nat.add_mul]; omega]
      exact this
/-- the cells of element k of such a slice -/
theorem Sl.elem {α : Type} {w : World} {B d n c : Nat} {A : Option Addr} {f : α → List Value} {l : List α} (hf : ∀ x, (f x).length = d) (h : Sl w B d n (.slice A n c) (l.flatMap f)) (hd : 0 < d) {k : Nat} (hk : k < n) :
    ∃ b o x, A = some ⟨b, o, none⟩ ∧ b < B ∧ l[k]? = some x ∧ ∀ j u, (f x)[j]? = some u → w.cell? ⟨b, o + k * d + j, none⟩ = some u := by
  obtain ⟨hl, A', c', he, h2, h3, h4⟩ := h
  obtain ⟨rfl, rfl⟩ : A = A' ∧ c = c' := by simpa using he
  obtain ⟨b, o, e, hb, hc⟩ := h4 (by omega)
  rw [flat_len f d hf] at hl
  have hln : l.length = n := Nat.eq_of_mul_eq_mul_right hd hl
  have hx : l[k]? = some (l[k]'(by omega)) := List.getElem?_eq_getElem (by omega)
  refine ⟨b, o, _, e, hb, hx, fun j u hu => ?_⟩
  have hj : j < d := by have := (List.getElem?_eq_some_iff.1 hu).1; rwa [hf] at this
  have := hc (k * d + j) u (by rw [flat_at f d hf l k j _ hx hj]; exact hu)
  rw [Nat.add_assoc]; exact this
theorem Sl.count {α : Type} {w : World} {B d n : Nat} {v : Value} {f : α → List Value} {l : List α} (hf : ∀ x, (f x).length = d) (h : Sl w B d n v (l.flatMap f)) (hd : 0 < d) : l.length = n := by
  have hl := h.1
  rw [flat_len f d hf] at hl
  exact Nat.eq_of_mul_eq_mul_right hd hl

/-- a handler, and where its filters lie -/
structure HndV where
  h : Hnd
  fv : Value
  fn : Nat
def hcells (x : HndV) : List Value := [txt x.h.nm, .int .i64 x.h.lv, x.fv]
/-- a logger, and where its handlers and its filters lie -/
structure LgrV where
  l : Lgr
  hv : Value
  hn : Nat
  fv : Value
  fn : Nat
def lcells (x : LgrV) : List Value := [txt x.l.nm, .int .i64 x.l.lv, x.hv, x.fv, .bool x.l.stop, .bool x.l.off]
def Txts (w : World) (B n : Nat) (v : Value) (l : List (List UInt8)) : Prop := Sl w B 1 n v (l.map txt) ∧ ∀ x ∈ l, x.length ≤ maxTxt
def Hs (w : World) (B n : Nat) (v : Value) (l : List HndV) : Prop := Sl w B 3 n v (l.flatMap hcells) ∧ ∀ x ∈ l, x.h.nm.length ≤ maxTxt ∧ Fs w B x.fn x.fv x.h.fs
def Ls (w : World) (B n : Nat) (v : Value) (l : List LgrV) : Prop :=
  Sl w B 6 n v (l.flatMap lcells) ∧ ∀ x ∈ l, x.l.nm.length ≤ maxTxt ∧ Txts w B x.hn x.hv x.l.hs ∧ Fs w B x.fn x.fv x.l.fs

section
variable {w w' : World} {B B' n : Nat} {v : Value}
theorem Fs.below {l : List Flt} (h : Fs w B n v l) (hb : Below B' w w') (hB : B ≤ B') : Fs w' B n v l := ⟨h.1.below hb hB, h.2⟩
theorem Fs.more {l : List Flt} (h : Fs w B n v l) (hB : B ≤ B') : Fs w B' n v l := ⟨h.1.more hB, h.2⟩
theorem Txts.below {l : List (List UInt8)} (h : Txts w B n v l) (hb : Below B' w w') (hB : B ≤ B') : Txts w' B n v l := ⟨h.1.below hb hB, h.2⟩
theorem Txts.more {l : List (List UInt8)} (h : Txts w B n v l) (hB : B ≤ B') : Txts w B' n v l := ⟨h.1.more hB, h.2⟩
theorem Hs.below {l : List HndV} (h : Hs w B n v l) (hb : Below B' w w') (hB : B ≤ B') : Hs w' B n v l := ⟨h.1.below hb hB, fun x hx => ⟨(h.2 x hx).1, (h.2 x hx).2.below hb hB⟩⟩
theorem Hs.more {l : List HndV} (h : Hs w B n v l) (hB : B ≤ B') : Hs w B' n v l := ⟨h.1.more hB, fun x hx => ⟨(h.2 x hx).1, (h.2 x hx).2.more hB⟩⟩
theorem Ls.below {l : List LgrV} (h : Ls w B n v l) (hb : Below B' w w') (hB : B ≤ B') : Ls w' B n v l :=
  ⟨h.1.below hb hB, fun x hx => ⟨(h.2 x hx).1, (h.2 x hx).2.1.below hb hB, (h.2 x hx).2.2.below hb hB⟩⟩
theorem Ls.more {l : List LgrV} (h : Ls w B n v l) (hB : B ≤ B') : Ls w B' n v l :=
  ⟨h.1.more hB, fun x hx => ⟨(h.2 x hx).1, (h.2 x hx).2.1.more hB, (h.2 x hx).2.2.more hB⟩⟩
theorem hcells_len (x : HndV) : (hcells x).length = 3 := rfl
theorem lcells_len (x : LgrV) : (lcells x).length = 6 := rfl
theorem Hs.count {l : List HndV} (h : Hs w B n v l) : l.length = n := Sl.count hcells_len h.1 (by omega)
theorem Ls.count {l : List LgrV} (h : Ls w B n v l) : l.length = n := Sl.count lcells_len h.1 (by omega)
theorem Txts.count {l : List (List UInt8)} (h : Txts w B n v l) : l.length = n := by have := h.1.1; simp at this; omega
end
/-- element k of handlers: its three cells -/
theorem Hs.at_ {w : World} {B n c : Nat} {A : Option Addr} {l : List HndV} (h : Hs w B n (.slice A n c) l) {k : Nat} (hk : k < n) :
    ∃ b o x s, A = some ⟨b, o, none⟩ ∧ b < B ∧ l[k]? = some x ∧ s.data.toList = x.h.nm ∧ s.size ≤ maxTxt ∧ Fs w B x.fn x.fv x.h.fs ∧
      w.cell? ⟨b, o + k * 3, none⟩ = some (.string s) ∧ w.cell? ⟨b, o + k * 3 + 1, none⟩ = some (.int .i64 x.h.lv) ∧ w.cell? ⟨b, o + k * 3 + 2, none⟩ = some x.fv := by
  obtain ⟨b, o, x, e, hb, hx, hc⟩ := Sl.elem hcells_len h.1 (by omega) hk
  have hm := h.2 x (List.mem_of_getElem? hx)
  exact ⟨b, o, x, ⟨x.h.nm.toArray⟩, e, hb, hx, by simp, by rw [Lib.size_eq]; simpa using hm.1, hm.2, hc 0 _ rfl, hc 1 _ rfl, hc 2 _ rfl⟩
theorem Ls.at_ {w : World} {B n c : Nat} {A : Option Addr} {l : List LgrV} (h : Ls w B n (.slice A n c) l) {k : Nat} (hk : k < n) :
    ∃ b o x s, A = some ⟨b, o, none⟩ ∧ b < B ∧ l[k]? = some x ∧ s.data.toList = x.l.nm ∧ s.size ≤ maxTxt ∧ Txts w B x.hn x.hv x.l.hs ∧ Fs w B x.fn x.fv x.l.fs ∧
      w.cell? ⟨b, o + k * 6, none⟩ = some (.string s) ∧ w.cell? ⟨b, o + k * 6 + 1, none⟩ = some (.int .i64 x.l.lv) ∧ w.cell? ⟨b, o + k * 6 + 2, none⟩ = some x.hv ∧ w.cell? ⟨b, o + k * 6 + 3, none⟩ = some x.fv ∧
      w.cell? ⟨b, o + k * 6 + 4, none⟩ = some (.bool x.l.stop) ∧ w.cell? ⟨b, o + k * 6 + 5, none⟩ = some (.bool x.l.off) := by
  obtain ⟨b, o, x, e, hb, hx, hc⟩ := Sl.elem lcells_len h.1 (by omega) hk
  have hm := h.2 x (List.mem_of_getElem? hx)
  exact ⟨b, o, x, ⟨x.l.nm.toArray⟩, e, hb, hx, by simp, by rw [Lib.size_eq]; simpa using hm.1, hm.2.1, hm.2.2, hc 0 _ rfl, hc 1 _ rfl, hc 2 _ rfl, hc 3 _ rfl, hc 4 _ rfl, hc 5 _ rfl⟩
end Go.Proofs.YtlifaeleoiodkaaGreatDoor

/-
  WALKS: isLevel, handlerAt, loggerAt, hasText, differentHandlers, validHandlers (of the program).
-/
namespace Go.Proofs.YtlifaeleoiodkaaGreatDoor
open Go.RowKit Nm
set_option linter.unusedSimpArgs false
set_option linter.unusedVariables false

/-- the place of a text, -1 if it is not there -/
def idxL (ns : List (List UInt8)) (x : List UInt8) : Int := if x ∈ ns then (ns.idxOf x : Int) else -1
theorem idx_hit (ns : List (List UInt8)) (x : List UInt8) (k : Nat) (h : ns[k]? = some x) (hn : x ∉ ns.take k) : idxL ns x = k := by
  obtain ⟨hk, he⟩ := List.getElem?_eq_some_iff.1 h
  unfold idxL
  rw [if_pos (List.mem_of_getElem? h)]
  have : ns.idxOf x = k := by
    conv => lhs; rw [← List.take_append_drop k ns]
    rw [List.idxOf_append, if_neg hn, List.drop_eq_getElem_cons hk, he]
    simp; omega
  rw [this]
theorem idx_miss (ns : List (List UInt8)) (x : List UInt8) (hn : x ∉ ns) : idxL ns x = -1 := by unfold idxL; rw [if_neg hn]
theorem idx_neg (ns : List (List UInt8)) (x : List UInt8) : (idxL ns x < 0) ↔ x ∉ ns := by
  unfold idxL; split <;> simp_all
theorem not_take_succ (ns : List (List UInt8)) (x y : List UInt8) (k : Nat) (h : x ∉ ns.take k) (hy : ns[k]? = some y) (hne : y ≠ x) : x ∉ ns.take (k + 1) := by
  rw [List.take_add_one, hy]
  simp only [List.mem_append, not_or]
  exact ⟨h, by simpa using fun e => hne e.symm⟩

theorem isLevel_c (n : Int) (w : World) :
    Calls Tryz.prog 55 #[.int .i64 n] w fun e w' => e = .returned (.bool (lvOk n)) ∧ w' = w := by
  by_cases h0 : 0 ≤ n
  · have HE := hid (show lvOk n = decide (n ≤ 60) by simp [lvOk, h0])
    go_enter Tryz.func55, Tryz.ntmps55
    go_wp2
    all_goals go_ret
    all_goals exact ⟨ret_bool (by rw [HE.out]), rfl⟩
  · have h0' : n < 0 := by omega
    have HE := hid (show lvOk n = false by simp [lvOk, h0])
    go_enter Tryz.func55, Tryz.ntmps55
    go_wp2
    all_goals go_ret
    all_goals exact ⟨ret_bool (by rw [HE.out]), rfl⟩

def hnames (l : List HndV) : List (List UInt8) := l.map (·.h.nm)
def lnames (l : List LgrV) : List (List UInt8) := l.map (·.l.nm)

set_option maxHeartbeats 1000000 in
set_option maxRecDepth 100000 in
theorem handlerAt_c (v : Value) (n B : Nat) (l : List HndV) (s : ByteArray) (w : World) (hv : Hs w B n v l) :
    Calls Tryz.prog 77 #[v, .string s] w fun e w' => e = .returned (.int .i64 (idxL (hnames l) s.data.toList)) ∧ w' = w := by
  have hln := hv.count
  obtain ⟨A, c, rfl, hnc, hcm⟩ := hv.1.form
  unfold maxLen at hcm
  have HV := hid (And.intro hv hln)
  clear hv hln
  go_enter Tryz.func77, Tryz.ntmps77
  go_wp2_with fail
  go_loop [5] (fun iv => ∃ k : Nat, iv = .int .i64 k ∧ k ≤ n ∧ Hid (s.data.toList ∉ (hnames l).take k)) (fun iv => n - (intOf iv).toNat)
  case atStart => exact ⟨0, rfl, by omega, by simp [Hid]⟩
  case round =>
    obtain ⟨k, rfl, hk, HN⟩ := hrel
    by_cases hlt : k < n
    · obtain ⟨b, o, x, t, rfl, hb, hx, ht, _, _, g0, _, _⟩ := HV.out.1.at_ hlt
      have hxn : (hnames l)[k]? = some t.data.toList := by unfold hnames; rw [List.getElem?_map, hx, ht]; rfl
      have HX := hid hxn
      clear hx ht hxn
      by_cases he : t.data.toList = s.data.toList
      · have e1 := eq_true_of he
        have HE := hid (idx_hit _ _ k (by rw [HX.out, he]) HN.out)
        clear he
        go_wp2_with fail
        go_ret
        exact ⟨ret_int HE.out.symm, rfl⟩
      · have e1 := eq_false_of he
        have HE := hid (not_take_succ _ _ _ _ HN.out HX.out he)
        clear he
        go_wp2_with fail
        refine ⟨⟨k + 1, by go_num, by omega, HE⟩, by simp [intOf]; omega⟩
    · have HE := hid (idx_miss (hnames l) s.data.toList (by have := HN.out; rwa [List.take_of_length_le (by unfold hnames; simp; have := HV.out.2; omega)] at this))
      go_wp2_with fail
      go_ret
      exact ⟨ret_int HE.out.symm, rfl⟩

set_option maxHeartbeats 1000000 in
set_option maxRecDepth 100000 in
theorem loggerAt_c (v : Value) (n B : Nat) (l : List LgrV) (s : ByteArray) (w : World) (hv : Ls w B n v l) :
    Calls Tryz.prog 65 #[v, .string s] w fun e w' => e = .returned (.int .i64 (idxL (lnames l) s.data.toList)) ∧ w' = w := by
  have hln := hv.count
  obtain ⟨A, c, rfl, hnc, hcm⟩ := hv.1.form
  unfold maxLen at hcm
  have HV := hid (And.intro hv hln)
  clear hv hln
  go_enter Tryz.func65, Tryz.ntmps65
  go_wp2_with fail
  go_loop [5] (fun iv => ∃ k : Nat, iv = .int .i64 k ∧ k ≤ n ∧ Hid (s.data.toList ∉ (lnames l).take k)) (fun iv => n - (intOf iv).toNat)
  case atStart => exact ⟨0, rfl, by omega, by simp [Hid]⟩
  case round =>
    obtain ⟨k, rfl, hk, HN⟩ := hrel
    by_cases hlt : k < n
    · obtain ⟨b, o, x, t, rfl, hb, hx, ht, _, _, _, g0, _⟩ := HV.out.1.at_ hlt
      have hxn : (lnames l)[k]? = some t.data.toList := by unfold lnames; rw [List.getElem?_map, hx, ht]; rfl
      have HX := hid hxn
      clear hx ht hxn
      by_cases he : t.data.toList = s.data.toList
      · have e1 := eq_true_of he
        have HE := hid (idx_hit _ _ k (by rw [HX.out, he]) HN.out)
        clear he
        go_wp2_with fail
        go_ret
        exact ⟨ret_int HE.out.symm, rfl⟩
      · have e1 := eq_false_of he
        have HE := hid (not_take_succ _ _ _ _ HN.out HX.out he)
        clear he
        go_wp2_with fail
        refine ⟨⟨k + 1, by go_num, by omega, HE⟩, by simp [intOf]; omega⟩
    · have HE := hid (idx_miss (lnames l) s.data.toList (by have := HN.out; rwa [List.take_of_length_le (by unfold lnames; simp; have := HV.out.2; omega)] at this))
      go_wp2_with fail
      go_ret
      exact ⟨ret_int HE.out.symm, rfl⟩

theorem Txts.text {w : World} {B n c : Nat} {A : Option Addr} {ws : List (List UInt8)} (h : Txts w B n (.slice A n c) ws) {k : Nat} (hk : k < n) :
    ∃ b o p, A = some ⟨b, o, none⟩ ∧ b < B ∧ ws[k]? = some p.data.toList ∧ p.size ≤ maxTxt ∧ w.cell? ⟨b, o + k, none⟩ = some (.string p) := by
  have hl := h.count
  obtain ⟨hl1, A', c', he, h2, h3, h4⟩ := h.1
  obtain ⟨rfl, rfl⟩ : A = A' ∧ c = c' := by simpa using he
  obtain ⟨b, o, e, hb, hc⟩ := h4 (by omega)
  obtain ⟨p, hp1, hp2⟩ := txt_at ws k (by omega)
  exact ⟨b, o, p, e, hb, hp1, by rw [Lib.size_eq]; exact h.2 _ (List.mem_of_getElem? hp1), hc k _ hp2⟩

set_option maxHeartbeats 1000000 in
set_option maxRecDepth 100000 in
theorem hasText_c (v : Value) (n B : Nat) (l : List (List UInt8)) (s : ByteArray) (w : World) (hv : Txts w B n v l) :
    Calls Tryz.prog 106 #[v, .string s] w fun e w' => e = .returned (.bool (decide (s.data.toList ∈ l))) ∧ w' = w := by
  have hln := hv.count
  obtain ⟨A, c, rfl, hnc, hcm⟩ := hv.1.form
  unfold maxLen at hcm
  have HV := hid (And.intro hv hln)
  clear hv hln
  go_enter Tryz.func106, Tryz.ntmps106
  go_wp2_with fail
  go_loop [5] (fun iv => ∃ k : Nat, iv = .int .i64 k ∧ k ≤ n ∧ Hid (s.data.toList ∉ l.take k)) (fun iv => n - (intOf iv).toNat)
  case atStart => exact ⟨0, rfl, by omega, by simp [Hid]⟩
  case round =>
    obtain ⟨k, rfl, hk, HN⟩ := hrel
    by_cases hlt : k < n
    · obtain ⟨b, o, t, rfl, hb, hxn, _, g0⟩ := HV.out.1.text hlt
      have HX := hid hxn
      clear hxn
      by_cases he : t.data.toList = s.data.toList
      · have e1 := eq_true_of he
        have HE := hid (show decide (s.data.toList ∈ l) = true from decide_eq_true (by rw [← he]; exact List.mem_of_getElem? HX.out))
        clear he
        go_wp2_with fail
        go_ret
        exact ⟨ret_bool HE.out.symm, rfl⟩
      · have e1 := eq_false_of he
        have HE := hid (not_take_succ _ _ _ _ HN.out HX.out he)
        clear he
        go_wp2_with fail
        refine ⟨⟨k + 1, by go_num, by omega, HE⟩, by simp [intOf]; omega⟩
    · have HE := hid (show decide (s.data.toList ∈ l) = false from decide_eq_false (by have := HN.out; rwa [List.take_of_length_le (by have := HV.out.2; omega)] at this))
      go_wp2_with fail
      go_ret
      exact ⟨ret_bool HE.out.symm, rfl⟩
end Go.Proofs.YtlifaeleoiodkaaGreatDoor

/-
  WALKS: differentHandlers, validHandlers, validLoggers, ValidTree of the program.
-/
namespace Go.Proofs.YtlifaeleoiodkaaGreatDoor
open Go.RowKit Nm
set_option linter.unusedSimpArgs false
set_option linter.unusedVariables false

theorem set_congr {w : World} {b n : Nat} {f g : List UInt8 → Bool} (h : SetM w b n f) (e : ∀ l, f l = g l) : SetM w b n g := by
  have : f = g := funext e
  rwa [← this]
theorem take_mem (ns : List (List UInt8)) (k : Nat) (x y : List UInt8) (h : ns[k]? = some x) : (y ∈ ns.take (k + 1)) ↔ (y = x ∨ y ∈ ns.take k) := by
  rw [List.take_add_one, h]
  simp only [List.mem_append]
  constructor
  · rintro (h | h)
    · exact .inr h
    · exact .inl (by simpa using h)
  · rintro (h | h)
    · exact .inr (by simpa using h)
    · exact .inl h
theorem nodup_step (ns : List (List UInt8)) (k : Nat) (x : List UInt8) (hx : ns[k]? = some x) (h : (ns.take k).Nodup) (hn : x ∉ ns.take k) : (ns.take (k + 1)).Nodup := by
  rw [List.take_add_one, hx]
  exact List.nodup_append.2 ⟨h, by simp, by intro a ha b hb e; simp at hb; subst hb; subst e; exact hn ha⟩
theorem drop_cons' (l : List (List UInt8)) (p : Nat) (c : List UInt8) (h : l[p]? = some c) : l.drop p = c :: l.drop (p + 1) := by
  obtain ⟨hl, rfl⟩ := List.getElem?_eq_some_iff.1 h
  exact List.drop_eq_getElem_cons hl
theorem not_nodup (ns : List (List UInt8)) (k : Nat) (x : List UInt8) (hx : ns[k]? = some x) (h : x ∈ ns.take k) : ¬ ns.Nodup := by
  intro hn
  have e : ns = ns.take k ++ ns.drop k := (List.take_append_drop k ns).symm
  rw [e, List.nodup_append] at hn
  exact hn.2.2 x h x (by rw [drop_cons' ns k x hx]; simp) rfl

set_option maxHeartbeats 4000000 in
set_option maxRecDepth 100000 in
theorem different_c (v1 v2 : Value) (n1 n2 B : Nat) (l : List (List UInt8)) (hs : List HndV) (w : World) (h1 : Txts w B n1 v1 l) (h2 : Hs w B n2 v2 hs) (hB : B ≤ w.heap.size) (hb1 : n1 ≤ 1048576) (hb2 : n2 ≤ 1048576) :
    Calls Tryz.prog 99 #[v1, v2] w (BoolPost w (l.all (fun x => decide (x ∈ hnames hs)) && decide l.Nodup)) := by
  have c1 := h1.count
  have c2 := h2.count
  obtain ⟨A1, k1, rfl, _, _⟩ := h1.1.form
  obtain ⟨A2, k2, rfl, _, _⟩ := h2.1.form
  have HV := hid (And.intro h1 (And.intro h2 (And.intro c1 c2)))
  clear h1 h2 c1 c2
  have hmm := @run_makeMap Tryz.prog
  go_enter Tryz.func99, Tryz.ntmps99
  go_wp2_with fail
  clear hmm
  go_loopw [13] (fun iv wr => ∃ k : Nat, iv = .int .i64 k ∧ k ≤ n2 ∧ SetM wr w.heap.size k (fun x => decide (x ∈ (hnames hs).take k)) ∧ Below w.heap.size w wr) (fun iv _ => n2 - (intOf iv).toNat)
  case atStart => exact ⟨0, rfl, by omega, set_congr (SetM.made w) (by simp), (Below.refl _ _).alloc (Nat.le_refl _) _⟩
  case round =>
    obtain ⟨k, rfl, hk, hM, hW⟩ := hrel
    by_cases hlt : k < n2
    · obtain ⟨b, o, x, t, rfl, hb, hx, ht, hts, hF, g0, g1, g2⟩ := HV.out.2.1.at_ hlt
      obtain ⟨A3, k3, hfv, _, _⟩ := hF.1.form
      rw [hfv] at g2
      have c0 : wr.cell? ⟨b, o + k * 3, none⟩ = some (.string t) := (hW.cell (p := ⟨b, o + k * 3, none⟩) (by show b < _; omega)).trans g0
      have c1 : wr.cell? ⟨b, o + k * 3 + 1, none⟩ = some (.int .i64 x.h.lv) := (hW.cell (p := ⟨b, o + k * 3 + 1, none⟩) (by show b < _; omega)).trans g1
      have c2 : wr.cell? ⟨b, o + k * 3 + 2, none⟩ = some (.slice A3 x.fn k3) := (hW.cell (p := ⟨b, o + k * 3 + 2, none⟩) (by show b < _; omega)).trans g2
      have hxn : (hnames hs)[k]? = some t.data.toList := by unfold hnames; rw [List.getElem?_map, hx, ht]; rfl
      have HX := hid hxn
      have hM2 := hid (hM.kept (World.grownBy_alloc wr (.cells #[.string t, .int .i64 x.h.lv, .slice A3 x.fn k3] 125) none) (by simp))
      have HW := hid hW
      have hmt : t.size ≤ maxLen := by unfold maxTxt at hts; unfold maxLen; omega
      clear hx ht hxn g0 g1 g2 hF hfv hM hW
      go_wp2_with (at_mapUpdate; refine wpList_setM _ hM2.out rfl _ _ _ rfl rfl (by unfold maxLen; omega) t hmt true rfl rfl ?_)
      intro w1 hM3 hg1
      have HM3 := hid (set_congr hM3 (g := fun y => decide (y ∈ (hnames hs).take (k + 1))) (by intro y; rw [Bool.eq_iff_iff]; simp only [take_mem _ _ _ _ HX.out]; by_cases e : y = t.data.toList <;> simp [e]))
      have HW1 := hid ((HW.out.alloc HW.out.size (.cells #[.string t, .int .i64 x.h.lv, .slice A3 x.fn k3] 125)).grown hg1 (by have := HW.out.size; simp; omega) (by intro q hq; cases hq; exact Nat.le_refl _))
      clear hM3 hg1 c0 c1 c2
      go_wp2_with fail
      go_roundw
      case rel => exact ⟨k + 1, by go_num, by omega, HM3.out, HW1.out⟩
      case measure => simp [intOf]; omega
    · have hk2 : k = n2 := by omega
      have HM := hid (set_congr hM (g := fun y => decide (y ∈ hnames hs)) (by intro y; rw [List.take_of_length_le (by unfold hnames; simp; have := HV.out.2.2.2; omega)]))
      have HW := hid hW
      clear hM hW
      subst hk2
      obtain ⟨wo, rfl⟩ : ∃ wo : World, wo = wr := ⟨_, rfl⟩
      go_wp2_with fail
      go_loopw [23] (fun iv wx => ∃ i : Nat, iv = .int .i64 i ∧ i ≤ n1 ∧ Hid ((l.take i).all (fun x => decide (x ∈ hnames hs)) = true ∧ (l.take i).Nodup) ∧ SetM wx w.heap.size (k + i) (fun y => decide (y ∈ hnames hs) && !decide (y ∈ l.take i)) ∧ Below w.heap.size w wx) (fun iv _ => n1 - (intOf iv).toNat)
      case atStart => exact ⟨0, rfl, by omega, ⟨by simp, by simp⟩, set_congr HM.out (by simp), HW.out⟩
      case round =>
        obtain ⟨i, rfl, hi, HA, hM, hW⟩ := hrel
        by_cases hlt2 : i < n1
        · obtain ⟨b, o, t, rfl, hb, hxn, hts, g0⟩ := HV.out.1.text hlt2
          have c0 : wr.cell? ⟨b, o + i, none⟩ = some (.string t) := (hW.cell (p := ⟨b, o + i, none⟩) (by show b < _; omega)).trans g0
          have hmt : t.size ≤ maxLen := by unfold maxTxt at hts; unfold maxLen; omega
          have hlook := hM.look t hmt
          have HX := hid hxn
          have HMx := hid hM
          have HWx := hid hW
          clear hxn g0 hM hW hb
          cases hf : (decide (t.data.toList ∈ hnames hs) && !decide (t.data.toList ∈ l.take i)) with
          | false =>
            rw [hf] at hlook
            have HF := hid (show (l.all (fun x => decide (x ∈ hnames hs)) && decide l.Nodup) = false by
              cases ha : (l.all (fun x => decide (x ∈ hnames hs)) && decide l.Nodup) with
              | false => rfl
              | true =>
                simp only [Bool.and_eq_true, List.all_eq_true, decide_eq_true_eq] at ha
                have h1 := ha.1 _ (List.mem_of_getElem? HX.out)
                rw [decide_eq_true h1, Bool.true_and, Bool.not_eq_false', decide_eq_true_eq] at hf
                exact absurd ha.2 (not_nodup l i _ HX.out hf))
            clear hf
            go_wp2_with fail
            go_ret
            exact ⟨ret_bool HF.out.symm, HWx.out⟩
          | true =>
            rw [hf] at hlook
            simp only [Bool.and_eq_true, decide_eq_true_eq, Bool.not_eq_true', decide_eq_false_iff_not] at hf
            have HF := hid hf
            clear hf
            go_wp2_with (at_mapUpdate; refine wpList_setM _ HMx.out rfl _ _ _ rfl rfl (by unfold maxLen; omega) t hmt false rfl rfl ?_)
            intro w1 hM3 hg1
            have HM3 := hid (set_congr hM3 (g := fun y => decide (y ∈ hnames hs) && !decide (y ∈ l.take (i + 1))) (by intro y; rw [Bool.eq_iff_iff]; by_cases e : y = t.data.toList <;> simp [take_mem _ _ _ _ HX.out, e]))
            have HW1 := hid (HWx.out.grown hg1 HWx.out.size (by intro q hq; cases hq; exact Nat.le_refl _))
            clear hM3 hg1 hlook c0
            go_wp2_with fail
            go_roundw
            case rel =>
              refine ⟨i + 1, by go_num, by omega, ⟨?_, nodup_step l i _ HX.out HA.out.2 HF.out.2⟩, HM3.out, HW1.out⟩
              rw [List.take_add_one, HX.out]
              simp only [List.all_append, HA.out.1, Bool.true_and]
              simp [HF.out.1]
            case measure => simp [intOf]; omega
        · have hi2 : i = n1 := by omega
          have HF := hid (show (l.all (fun x => decide (x ∈ hnames hs)) && decide l.Nodup) = true by
            have h1 := HA.out
            rw [List.take_of_length_le (by have := HV.out.2.2.1; omega)] at h1
            rw [h1.1, decide_eq_true h1.2]; rfl)
          have HWx := hid hW
          clear hM hW
          go_wp2_with fail
          go_ret
          exact ⟨ret_bool HF.out.symm, HWx.out⟩
end Go.Proofs.YtlifaeleoiodkaaGreatDoor

/-
  WALKS: validHandlers, validLoggers, ValidTree of the program.
-/
namespace Go.Proofs.YtlifaeleoiodkaaGreatDoor
open Go.RowKit Nm
set_option linter.unusedSimpArgs false
set_option linter.unusedVariables false

def hsOf (l : List HndV) : List Hnd := l.map (·.h)
theorem hnames_eq (l : List HndV) : (hsOf l).map (·.nm) = hnames l := by unfold hsOf hnames; rw [List.map_map]; rfl
theorem hnds_bad (l : List HndV) (k : Nat) (x : HndV) (hx : l[k]? = some x) (h : hndOk x.h = false) : hndsOk (hsOf l) = false := by
  cases hn : hndsOk (hsOf l) with
  | false => rfl
  | true =>
    simp only [hndsOk, Bool.and_eq_true, List.all_eq_true] at hn
    have := hn.1 x.h (List.mem_map.2 ⟨x, List.mem_of_getElem? hx, rfl⟩)
    rw [h] at this; cases this
theorem hnds_dup (l : List HndV) (k : Nat) (x : List UInt8) (hx : (hnames l)[k]? = some x) (h : x ∈ (hnames l).take k) : hndsOk (hsOf l) = false := by
  unfold hndsOk
  rw [hnames_eq, decide_eq_false (not_nodup _ k x hx h)]
  simp
theorem hnds_many (l : List HndV) (h : 6 < l.length) : hndsOk (hsOf l) = false := by
  unfold hndsOk
  rw [decide_eq_false (show ¬ (hsOf l).length ≤ 6 by unfold hsOf; simp; omega)]
  simp
theorem hnds_good (l : List HndV) (h : l.length ≤ 6) (h1 : ∀ x ∈ l, hndOk x.h = true) (h2 : (hnames l).Nodup) : hndsOk (hsOf l) = true := by
  unfold hndsOk
  rw [hnames_eq, decide_eq_true h2, decide_eq_true (show (hsOf l).length ≤ 6 by unfold hsOf; simpa using h)]
  simp only [Bool.and_true, List.all_eq_true]
  intro y hy
  obtain ⟨x, hx, rfl⟩ := List.mem_map.1 hy
  exact h1 x hx
theorem last_eq (t : ByteArray) : (t.toList == [108, 97, 115, 116]) = decide (t.data.toList = lastL) := by
  rw [ByteArray.toList_eq]
  show (t.data.toList == lastL) = _
  rw [Bool.eq_iff_iff, beq_iff_eq, decide_eq_true_eq]
theorem mem_take_succ {α : Type} (l : List α) (k : Nat) (x y : α) (h : l[k]? = some x) (hy : y ∈ l.take (k + 1)) : y = x ∨ y ∈ l.take k := by
  rw [List.take_add_one, h] at hy
  rcases List.mem_append.1 hy with hy | hy
  · exact .inr hy
  · exact .inl (by simpa using hy)

set_option maxHeartbeats 4000000 in
set_option maxRecDepth 100000 in
theorem implHandlers_c (v : Value) (n B : Nat) (l : List HndV) (w : World) (hv : Hs w B n v l) (hB : B ≤ w.heap.size) :
    Calls Tryz.prog 56 #[v] w (BoolPost w (hndsOk (hsOf l))) := by
  have hln := hv.count
  obtain ⟨A, c, rfl, hnc, hcm⟩ := hv.1.form
  unfold maxLen at hcm
  by_cases h6 : (6 : Int) < (n : Int)
  · have HE := hid (hnds_many l (by omega))
    clear hv hln
    go_enter Tryz.func56, Tryz.ntmps56
    go_wp2_with fail
    go_ret
    exact ⟨ret_bool HE.out.symm, Below.refl _ _⟩
  have HV := hid (And.intro hv hln)
  clear hv hln
  have hmm := @run_makeMap Tryz.prog
  go_enter Tryz.func56, Tryz.ntmps56
  go_wp2_with fail
  clear hmm
  go_loopw [12] (fun iv wr => ∃ k : Nat, iv = .int .i64 k ∧ k ≤ n ∧ Hid ((∀ x ∈ l.take k, hndOk x.h = true) ∧ ((hnames l).take k).Nodup) ∧ SetM wr w.heap.size k (fun x => decide (x ∈ (hnames l).take k)) ∧ Below w.heap.size w wr) (fun iv _ => n - (intOf iv).toNat)
  case atStart => exact ⟨0, rfl, by omega, ⟨by simp, by simp⟩, set_congr (SetM.made w) (by simp), (Below.refl _ _).alloc (Nat.le_refl _) _⟩
  case round =>
    obtain ⟨k, rfl, hk, HA, hM, hW⟩ := hrel
    by_cases hlt : k < n
    · obtain ⟨b, o, x, t, rfl, hb, hx, ht, hts, hF, g0, g1, g2⟩ := HV.out.1.at_ hlt
      obtain ⟨A3, k3, hfv, _, _⟩ := hF.1.form
      rw [hfv] at g2
      have c0 : wr.cell? ⟨b, o + k * 3, none⟩ = some (.string t) := (hW.cell (p := ⟨b, o + k * 3, none⟩) (by show b < _; omega)).trans g0
      have c1 : wr.cell? ⟨b, o + k * 3 + 1, none⟩ = some (.int .i64 x.h.lv) := (hW.cell (p := ⟨b, o + k * 3 + 1, none⟩) (by show b < _; omega)).trans g1
      have c2 : wr.cell? ⟨b, o + k * 3 + 2, none⟩ = some (.slice A3 x.fn k3) := (hW.cell (p := ⟨b, o + k * 3 + 2, none⟩) (by show b < _; omega)).trans g2
      have hmt : t.size ≤ maxLen := by unfold maxTxt at hts; unfold maxLen; omega
      have hxn : (hnames l)[k]? = some t.data.toList := by unfold hnames; rw [List.getElem?_map, hx, ht]; rfl
      have HX := hid (And.intro hx (And.intro hxn ht))
      have HW0 := hid (hW.alloc hW.size (.cells #[.string t, .int .i64 x.h.lv, .slice A3 x.fn k3] 125))
      have HM0 := hid (hM.alloc' (.cells #[.string t, .int .i64 x.h.lv, .slice A3 x.fn k3] 125))
      have CX := hid (fun (W : World) (hb : Below (wr.alloc (.cells #[.string t, .int .i64 x.h.lv, .slice A3 x.fn k3] 125)).heap.size (wr.alloc (.cells #[.string t, .int .i64 x.h.lv, .slice A3 x.fn k3] 125)) W) (j : Nat) =>
        (hb.cell (p := ⟨wr.heap.size, j, none⟩) (by simp)).trans (cell_of_row _ wr.heap.size j _ _ _ (heap_alloc_new wr _)))
      rw [hfv] at hF
      have HF := hid (And.intro hF hW)
      have IW := hid (fun W => isWord_c t W hmt)
      have LV := hid (fun W => isLevel_c x.h.lv W)
      have HE := hid (show hndOk x.h = (wordOk t.data.toList && (!decide (t.data.toList = lastL) && (lvOk x.h.lv && filtersOk x.h.fs))) by unfold hndOk; rw [ht])
      generalize wordOk t.data.toList = q at IW HE
      clear hx hxn ht g0 g1 g2 hF hfv hM hW
      go_wp2_with fail
      refine (IW.out _).mono ?_
      rintro e w1 ⟨rfl, hb1⟩
      have d0 : w1.cell? ⟨wr.heap.size, 0, none⟩ = some (.string t) := CX.out w1 hb1 0
      have d1 : w1.cell? ⟨wr.heap.size, 1, none⟩ = some (.int .i64 x.h.lv) := CX.out w1 hb1 1
      have d2 : w1.cell? ⟨wr.heap.size, 2, none⟩ = some (.slice A3 x.fn k3) := CX.out w1 hb1 2
      have HW1 := hid (HW0.out.trans (hb1.mono HW0.out.size))
      have HM1 := hid (HM0.out.below hb1)
      have HB1 := hid hb1
      clear hb1 c0 c1 c2
      cases q with
      | false =>
        have HO := hid (hnds_bad l k x HX.out.1 (by rw [HE.out]; rfl))
        go_wp2_with fail
        go_ret
        exact ⟨ret_bool HO.out.symm, HW1.out⟩
      | true =>
        have e1 := last_eq t
        cases hl : decide (t.data.toList = lastL) with
        | true =>
          rw [hl] at e1 HE
          have HO := hid (hnds_bad l k x HX.out.1 (by rw [HE.out]; rfl))
          clear hl
          go_wp2_with fail
          go_ret
          exact ⟨ret_bool HO.out.symm, HW1.out⟩
        | false =>
          rw [hl] at e1 HE
          clear hl
          have hlook := HM1.out.look t hmt
          cases hs : decide (t.data.toList ∈ (hnames l).take k) with
          | true =>
            rw [hs] at hlook
            have HO := hid (hnds_dup l k _ HX.out.2.1 (by simpa using hs))
            clear hs
            go_wp2_with fail
            go_ret
            exact ⟨ret_bool HO.out.symm, HW1.out⟩
          | false =>
            rw [hs] at hlook
            have HS := hid (show t.data.toList ∉ (hnames l).take k by simpa using hs)
            clear hs
            go_wp2_with fail
            refine (LV.out _).mono ?_
            rintro e w2 ⟨rfl, rfl⟩
            clear hlook
            cases hv : lvOk x.h.lv with
            | false =>
              have HO := hid (hnds_bad l k x HX.out.1 (by rw [HE.out, hv]; rfl))
              clear hv
              go_wp2_with fail
              go_ret
              exact ⟨ret_bool HO.out.symm, HW1.out⟩
            | true =>
              rw [hv] at HE
              clear hv
              have VF := hid (implValidFilters_c (.slice A3 x.fn k3) x.fn B x.h.fs w2 (HF.out.1.below HW1.out hB) (by have := HW1.out.size; omega))
              go_wp2_with fail
              refine VF.out.mono ?_
              rintro e w3 ⟨rfl, hb3⟩
              have hB13 := HB1.out.trans (hb3.mono HB1.out.size)
              have d0' : w3.cell? ⟨wr.heap.size, 0, none⟩ = some (.string t) := CX.out w3 hB13 0
              have HW3 := hid (HW1.out.trans (hb3.mono HW1.out.size))
              have HM3 := hid (HM1.out.below hb3)
              clear hb3 d0 d1 d2 hB13
              cases hf : filtersOk x.h.fs with
              | false =>
                have HO := hid (hnds_bad l k x HX.out.1 (by rw [HE.out, hf]; rfl))
                clear hf
                go_wp2_with fail
                go_ret
                exact ⟨ret_bool HO.out.symm, HW3.out⟩
              | true =>
                rw [hf] at HE
                clear hf
                go_wp2_with (at_mapUpdate; refine wpList_setM _ HM3.out rfl _ _ _ rfl rfl (by unfold maxLen; omega) t hmt true rfl rfl ?_)
                intro w4 hM4 hg4
                have HM4 := hid (set_congr hM4 (g := fun y => decide (y ∈ (hnames l).take (k + 1))) (by intro y; rw [Bool.eq_iff_iff]; simp only [take_mem _ _ _ _ HX.out.2.1]; by_cases e : y = t.data.toList <;> simp [e]))
                have HW4 := hid (HW3.out.grown hg4 HW3.out.size (by intro q hq; cases hq; exact Nat.le_refl _))
                clear hM4 hg4 d0'
                go_wp2_with fail
                go_roundw
                case rel =>
                  refine ⟨k + 1, by go_num, by omega, ⟨?_, nodup_step _ k _ HX.out.2.1 HA.out.2 HS.out⟩, HM4.out, HW4.out⟩
                  intro y hy
                  rcases mem_take_succ l k x y HX.out.1 hy with rfl | hy
                  · rw [HE.out]; rfl
                  · exact HA.out.1 y hy
                case measure => simp [intOf]; omega
    · have HO := hid (show hndsOk (hsOf l) = true by
        have h1 := HA.out
        have hln := HV.out.2
        rw [List.take_of_length_le (by omega), List.take_of_length_le (by unfold hnames; simp; omega)] at h1
        exact hnds_good l (by omega) h1.1 h1.2)
      have HW := hid hW
      clear hM hW
      go_wp2_with fail
      go_ret
      exact ⟨ret_bool HO.out.symm, HW.out⟩

def lsOf (l : List LgrV) : List Lgr := l.map (·.l)
theorem lnames_eq (l : List LgrV) : (lsOf l).map (·.nm) = lnames l := by unfold lsOf lnames; rw [List.map_map]; rfl
theorem hasL_eq (hs : List HndV) (x : List UInt8) : hasL (hsOf hs) x = decide (x ∈ hnames hs) := by
  rw [Bool.eq_iff_iff]
  simp only [hasL, hsOf, hnames, List.any_map, List.any_eq_true, decide_eq_true_eq, Function.comp, List.mem_map]
theorem lgr_eq (hs : List HndV) (l : Lgr) : lgrOk (hsOf hs) l = (nameOk l.nm && (lvOk l.lv && (filtersOk l.fs && (l.hs.all (fun x => decide (x ∈ hnames hs)) && decide l.hs.Nodup)))) := by
  unfold lgrOk
  rw [show hasL (hsOf hs) = fun x => decide (x ∈ hnames hs) from funext (hasL_eq hs)]
theorem lgrs_bad (hs : List HndV) (l : List LgrV) (k : Nat) (x : LgrV) (hx : l[k]? = some x) (h : lgrOk (hsOf hs) x.l = false) : lgrsOk (hsOf hs) (lsOf l) = false := by
  cases hn : lgrsOk (hsOf hs) (lsOf l) with
  | false => rfl
  | true =>
    simp only [lgrsOk, Bool.and_eq_true, List.all_eq_true] at hn
    have := hn.1 x.l (List.mem_map.2 ⟨x, List.mem_of_getElem? hx, rfl⟩)
    rw [h] at this; cases this
theorem lgrs_dup (hs : List HndV) (l : List LgrV) (k : Nat) (x : List UInt8) (hx : (lnames l)[k]? = some x) (h : x ∈ (lnames l).take k) : lgrsOk (hsOf hs) (lsOf l) = false := by
  unfold lgrsOk
  rw [lnames_eq, decide_eq_false (not_nodup _ k x hx h)]
  simp
theorem lgrs_len (hs : List HndV) (l : List LgrV) (h : l.length = 0 ∨ 8 < l.length) : lgrsOk (hsOf hs) (lsOf l) = false := by
  unfold lgrsOk
  rcases h with h | h
  · rw [decide_eq_false (show ¬ 1 ≤ (lsOf l).length by unfold lsOf; rw [List.length_map]; omega)]; simp
  · rw [decide_eq_false (show ¬ (lsOf l).length ≤ 8 by unfold lsOf; rw [List.length_map]; omega)]; simp
theorem lgrs_root (hs : List HndV) (l : List LgrV) (x : List UInt8) (h : (lnames l)[0]? = some x) (hx : ¬ x = []) : lgrsOk (hsOf hs) (lsOf l) = false := by
  unfold lgrsOk
  rw [lnames_eq, h, decide_eq_false (show ¬ (some x = some []) by simpa using hx)]; simp
theorem lgrs_good (hs : List HndV) (l : List LgrV) (h0 : 1 ≤ l.length) (h8 : l.length ≤ 8) (hr : (lnames l)[0]? = some []) (h1 : ∀ x ∈ l, lgrOk (hsOf hs) x.l = true) (h2 : (lnames l).Nodup) : lgrsOk (hsOf hs) (lsOf l) = true := by
  unfold lgrsOk
  rw [lnames_eq, hr, decide_eq_true h2, decide_eq_true (show 1 ≤ (lsOf l).length by unfold lsOf; simpa using h0), decide_eq_true (show (lsOf l).length ≤ 8 by unfold lsOf; simpa using h8)]
  simp only [decide_true, Bool.and_true, List.all_eq_true]
  intro y hy
  obtain ⟨x, hx, rfl⟩ := List.mem_map.1 hy
  exact h1 x hx

set_option maxHeartbeats 6000000 in
set_option maxRecDepth 100000 in
theorem implLoggers_c (A1 A2 : Option Addr) (n1 k1 n2 k2 B : Nat) (q : Int) (l : List LgrV) (hs : List HndV) (w : World) (h1 : Ls w B n1 (.slice A1 n1 k1) l) (h2 : Hs w B n2 (.slice A2 n2 k2) hs) (hB : B ≤ w.heap.size) (hb1 : n1 ≤ 1048576) (hb2 : n2 ≤ 1048576) (hbh : ∀ x ∈ l, x.hn ≤ 1048576) :
    Calls Tryz.prog 57 #[.agg #[.slice A1 n1 k1, .slice A2 n2 k2, .int .i64 q]] w (BoolPost w (lgrsOk (hsOf hs) (lsOf l))) := by
  have c1 := h1.count
  have c2 := h2.count
  have HV := hid (And.intro h1 (And.intro h2 (And.intro c1 (And.intro c2 hbh))))
  have HB0 := hid (show Below w.heap.size w (w.alloc (.cells #[.slice A1 n1 k1, .slice A2 n2 k2, .int .i64 q] 36)) from (Below.refl _ _).alloc (Nat.le_refl _) _)
  clear h1 h2 hbh
  have hmm := @run_makeMap Tryz.prog
  by_cases hz : n1 = 0
  · have HO := hid (lgrs_len hs l (.inl (by omega)))
    have e0 : ((n1 : Int) == 0) = true := by simp [hz]
    clear c1 c2 hz
    go_enter Tryz.func57, Tryz.ntmps57
    go_wp2_with fail
    go_ret
    exact ⟨ret_bool HO.out.symm, HB0.out⟩
  have e0 : ((n1 : Int) == 0) = false := by simp [hz]
  by_cases h8 : (8 : Int) < (n1 : Int)
  · have HO := hid (lgrs_len hs l (.inr (by omega)))
    clear c1 c2 hz
    go_enter Tryz.func57, Tryz.ntmps57
    go_wp2_with fail
    go_ret
    exact ⟨ret_bool HO.out.symm, HB0.out⟩
  obtain ⟨b, o, x0, t0, hA, hb, hx0, ht0, hts0, _, _, g0, _⟩ := HV.out.1.at_ (k := 0) (by omega)
  have hx0n : (lnames l)[0]? = some t0.data.toList := by unfold lnames; rw [List.getElem?_map, hx0, ht0]; rfl
  have r0 : (w.alloc (.cells #[.slice A1 n1 k1, .slice A2 n2 k2, .int .i64 q] 36)).cell? ⟨b, o, none⟩ = some (.string t0) := by
    rw [HB0.out.cell (p := ⟨b, o, none⟩) (by show b < _; omega)]; simpa using g0
  subst hA
  clear c1 c2 hx0 ht0 g0
  by_cases hr : t0.data.toList = []
  · have e1 : (!t0.toList.isEmpty) = false := by rw [empty_true hr]; rfl
    have e2 := empty_true hr
    have HR := hid (show (lnames l)[0]? = some [] by rw [hx0n, hr])
    clear hr hx0n
    go_enter Tryz.func57, Tryz.ntmps57
    go_wp2_with fail
    clear hmm r0 hb
    have hsz : (w.alloc (.cells #[.slice (some ⟨b, o, none⟩) n1 k1, .slice A2 n2 k2, .int .i64 q] 36)).heap.size = w.heap.size + 1 := by simp
    have HSZ := hid hsz
    have BX := hid (fun (W : World) (hW : Below (w.heap.size + 1) (w.alloc (.cells #[.slice (some ⟨b, o, none⟩) n1 k1, .slice A2 n2 k2, .int .i64 q] 36)) W) => (hW.cell (p := ⟨w.heap.size, 1, none⟩) (by show w.heap.size < _; omega)).trans (cell_of_row _ w.heap.size 1 _ _ _ (heap_alloc_new w _)))
    have BW := hid (fun (W : World) (hW : Below (w.heap.size + 1) (w.alloc (.cells #[.slice (some ⟨b, o, none⟩) n1 k1, .slice A2 n2 k2, .int .i64 q] 36)) W) => HB0.out.trans (hW.mono (by omega)))
    clear hsz
    go_loopw [28] (fun iv wr => ∃ k : Nat, iv = .int .i64 k ∧ k ≤ n1 ∧ Hid ((∀ x ∈ l.take k, lgrOk (hsOf hs) x.l = true) ∧ ((lnames l).take k).Nodup) ∧ SetM wr (w.heap.size + 1) k (fun x => decide (x ∈ (lnames l).take k)) ∧ Hid (Below (w.heap.size + 1) (w.alloc (.cells #[.slice (some ⟨b, o, none⟩) n1 k1, .slice A2 n2 k2, .int .i64 q] 36)) wr)) (fun iv _ => n1 - (intOf iv).toNat)
    case atStart =>
      refine ⟨0, rfl, by omega, ⟨by simp, by simp⟩, set_congr (f := fun _ => false) ?_ (by simp), (Below.refl _ _).alloc (by simp) _⟩
      have := SetM.made (w.alloc (.cells #[.slice (some ⟨b, o, none⟩) n1 k1, .slice A2 n2 k2, .int .i64 q] 36))
      rwa [HSZ.out] at this
    case round =>
      obtain ⟨k, rfl, hk, HA, hM, HW⟩ := hrel
      by_cases hlt : k < n1
      · have hW := BW.out _ HW.out
        obtain ⟨b', o', x, t, hA', hb', hx, ht, hts, hH, hF, g0, g1, g2, g3, g4, g5⟩ := HV.out.1.at_ hlt
        obtain ⟨rfl, rfl⟩ : b = b' ∧ o = o' := by simpa using hA'
        obtain ⟨A3, k3, hhv, _, _⟩ := hH.1.form
        obtain ⟨A4, k4, hfv, _, _⟩ := hF.1.form
        rw [hhv] at g2
        rw [hfv] at g3
        have c0 : wr.cell? ⟨b, o + k * 6, none⟩ = some (.string t) := (hW.cell (p := ⟨b, o + k * 6, none⟩) (by show b < _; omega)).trans g0
        have c1 : wr.cell? ⟨b, o + k * 6 + 1, none⟩ = some (.int .i64 x.l.lv) := (hW.cell (p := ⟨b, o + k * 6 + 1, none⟩) (by show b < _; omega)).trans g1
        have c2 : wr.cell? ⟨b, o + k * 6 + 2, none⟩ = some (.slice A3 x.hn k3) := (hW.cell (p := ⟨b, o + k * 6 + 2, none⟩) (by show b < _; omega)).trans g2
        have c3 : wr.cell? ⟨b, o + k * 6 + 3, none⟩ = some (.slice A4 x.fn k4) := (hW.cell (p := ⟨b, o + k * 6 + 3, none⟩) (by show b < _; omega)).trans g3
        have c4 : wr.cell? ⟨b, o + k * 6 + 4, none⟩ = some (.bool x.l.stop) := (hW.cell (p := ⟨b, o + k * 6 + 4, none⟩) (by show b < _; omega)).trans g4
        have c5 : wr.cell? ⟨b, o + k * 6 + 5, none⟩ = some (.bool x.l.off) := (hW.cell (p := ⟨b, o + k * 6 + 5, none⟩) (by show b < _; omega)).trans g5
        have hmt : t.size ≤ maxLen := by unfold maxTxt at hts; unfold maxLen; omega
        have hxn : (lnames l)[k]? = some t.data.toList := by unfold lnames; rw [List.getElem?_map, hx, ht]; rfl
        have hhn := HV.out.2.2.2.2 x (List.mem_of_getElem? hx)
        have HX := hid (And.intro hx (And.intro hxn ht))
        have hszr : w.heap.size + 1 ≤ wr.heap.size := by have := HW.out.size; have := HSZ.out; omega
        have HW0 := hid (HW.out.alloc hszr (.cells #[.string t, .int .i64 x.l.lv, .slice A3 x.hn k3, .slice A4 x.fn k4, .bool x.l.stop, .bool x.l.off] 112))
        have HM0 := hid (hM.alloc' (.cells #[.string t, .int .i64 x.l.lv, .slice A3 x.hn k3, .slice A4 x.fn k4, .bool x.l.stop, .bool x.l.off] 112))
        have CX := hid (fun (W : World) (hb : Below (wr.alloc (.cells #[.string t, .int .i64 x.l.lv, .slice A3 x.hn k3, .slice A4 x.fn k4, .bool x.l.stop, .bool x.l.off] 112)).heap.size (wr.alloc (.cells #[.string t, .int .i64 x.l.lv, .slice A3 x.hn k3, .slice A4 x.fn k4, .bool x.l.stop, .bool x.l.off] 112)) W) (j : Nat) => (hb.cell (p := ⟨wr.heap.size, j, none⟩) (by simp)).trans (cell_of_row _ wr.heap.size j _ _ _ (heap_alloc_new wr _)))
        rw [hfv] at hF
        rw [hhv] at hH
        have HF := hid (And.intro hF (And.intro hH hW))
        have IW := hid (fun W => implValidName_c t W hmt)
        have LV := hid (fun W => isLevel_c x.l.lv W)
        have HE := hid (lgr_eq hs x.l)
        rw [← ht] at HE
        generalize nameOk t.data.toList = p at IW HE
        clear hx hxn ht g0 g1 g2 g3 g4 g5 hF hH hfv hhv hM hW hA' hb'
        go_wp2_with fail
        refine (IW.out _).mono ?_
        rintro e w1 ⟨rfl, hb1⟩
        have d0 : w1.cell? ⟨wr.heap.size, 0, none⟩ = some (.string t) := CX.out w1 hb1 0
        have d1 : w1.cell? ⟨wr.heap.size, 1, none⟩ = some (.int .i64 x.l.lv) := CX.out w1 hb1 1
        have d2 : w1.cell? ⟨wr.heap.size, 2, none⟩ = some (.slice A3 x.hn k3) := CX.out w1 hb1 2
        have d3 : w1.cell? ⟨wr.heap.size, 3, none⟩ = some (.slice A4 x.fn k4) := CX.out w1 hb1 3
        have HW1 := hid (HW0.out.trans (hb1.mono (by simp; omega)))
        have HM1 := hid (HM0.out.below hb1)
        have HB1 := hid hb1
        clear hb1 c0 c1 c2 c3 c4 c5
        cases p with
        | false =>
          have HO := hid (lgrs_bad hs l k x HX.out.1 (by rw [HE.out]; rfl))
          go_wp2_with fail
          go_ret
          exact ⟨ret_bool HO.out.symm, BW.out _ HW1.out⟩
        | true =>
          have hlook := HM1.out.look t hmt
          cases hsn : decide (t.data.toList ∈ (lnames l).take k) with
          | true =>
            rw [hsn] at hlook
            have HO := hid (lgrs_dup hs l k _ HX.out.2.1 (by simpa using hsn))
            clear hsn
            go_wp2_with fail
            go_ret
            exact ⟨ret_bool HO.out.symm, BW.out _ HW1.out⟩
          | false =>
            rw [hsn] at hlook
            have HS := hid (show t.data.toList ∉ (lnames l).take k by simpa using hsn)
            clear hsn
            go_wp2_with fail
            refine (LV.out _).mono ?_
            rintro e w2 ⟨rfl, rfl⟩
            clear hlook
            cases hv : lvOk x.l.lv with
            | false =>
              have HO := hid (lgrs_bad hs l k x HX.out.1 (by rw [HE.out, hv]; rfl))
              clear hv
              go_wp2_with fail
              go_ret
              exact ⟨ret_bool HO.out.symm, BW.out _ HW1.out⟩
            | true =>
              rw [hv] at HE
              clear hv
              have hbw1 := BW.out _ HW1.out
              have VF := hid (implValidFilters_c (.slice A4 x.fn k4) x.fn B x.l.fs w2 (HF.out.1.below hbw1 hB) (by have := hbw1.size; omega))
              clear hbw1
              go_wp2_with fail
              refine VF.out.mono ?_
              rintro e w3 ⟨rfl, hb3⟩
              have hB13 := HB1.out.trans (hb3.mono HB1.out.size)
              have d0' : w3.cell? ⟨wr.heap.size, 0, none⟩ = some (.string t) := CX.out w3 hB13 0
              have d2' : w3.cell? ⟨wr.heap.size, 2, none⟩ = some (.slice A3 x.hn k3) := CX.out w3 hB13 2
              have HW3 := hid (HW1.out.trans (hb3.mono (by have := HW1.out.size; have := HSZ.out; omega)))
              have bx : w3.cell? ⟨w.heap.size, 1, none⟩ = some (.slice A2 n2 k2) := BX.out _ HW3.out
              have HM3 := hid (HM1.out.below hb3)
              have HB3 := hid hB13
              clear hb3 d0 d1 d2 d3 hB13
              cases hf : filtersOk x.l.fs with
              | false =>
                have HO := hid (lgrs_bad hs l k x HX.out.1 (by rw [HE.out, hf]; rfl))
                clear hf
                go_wp2_with fail
                go_ret
                exact ⟨ret_bool HO.out.symm, BW.out _ HW3.out⟩
              | true =>
                rw [hf] at HE
                clear hf
                have hbw3 := BW.out _ HW3.out
                have DH := hid (different_c (.slice A3 x.hn k3) (.slice A2 n2 k2) x.hn n2 B x.l.hs hs w3 (HF.out.2.1.below hbw3 hB) (HV.out.2.1.below hbw3 hB) (by have := hbw3.size; omega) hhn hb2)
                generalize (x.l.hs.all (fun y => decide (y ∈ hnames hs)) && decide x.l.hs.Nodup) = r at DH HE
                clear hbw3
                go_wp2_with fail
                refine DH.out.mono ?_
                rintro e w4 ⟨rfl, hb4⟩
                have d0'' : w4.cell? ⟨wr.heap.size, 0, none⟩ = some (.string t) := CX.out w4 (HB3.out.trans (hb4.mono HB3.out.size)) 0
                have HW4 := hid (HW3.out.trans (hb4.mono (by have := HW3.out.size; have := HSZ.out; omega)))
                have HM4 := hid (HM3.out.below hb4)
                clear hb4 d0' d2' bx
                cases r with
                | false =>
                  have HO := hid (lgrs_bad hs l k x HX.out.1 (by rw [HE.out]; rfl))
                  go_wp2_with fail
                  go_ret
                  exact ⟨ret_bool HO.out.symm, BW.out _ HW4.out⟩
                | true =>
                  go_wp2_with (at_mapUpdate; refine wpList_setM _ HM4.out rfl _ _ _ rfl rfl (by unfold maxLen; omega) t hmt true rfl rfl ?_)
                  intro w5 hM5 hg5
                  have HM5 := hid (set_congr hM5 (g := fun y => decide (y ∈ (lnames l).take (k + 1))) (by intro y; rw [Bool.eq_iff_iff]; simp only [take_mem _ _ _ _ HX.out.2.1]; by_cases e : y = t.data.toList <;> simp [e]))
                  have HW5 := hid (HW4.out.grown hg5 (by have := HW4.out.size; have := HSZ.out; omega) (by intro q hq; cases hq; exact Nat.le_refl _))
                  clear hM5 hg5 d0''
                  go_wp2_with fail
                  go_roundw
                  case rel =>
                    refine ⟨k + 1, by go_num, by omega, ⟨?_, nodup_step _ k _ HX.out.2.1 HA.out.2 HS.out⟩, HM5.out, HW5.out⟩
                    intro y hy
                    rcases mem_take_succ l k x y HX.out.1 hy with rfl | hy
                    · rw [HE.out]; rfl
                    · exact HA.out.1 y hy
                  case measure => simp [intOf]; omega
      · have HO := hid (show lgrsOk (hsOf hs) (lsOf l) = true by
          have h1 := HA.out
          have hln := HV.out.2.2.1
          rw [List.take_of_length_le (by omega), List.take_of_length_le (by unfold lnames; simp; omega)] at h1
          exact lgrs_good hs l (by omega) (by omega) HR.out h1.1 h1.2)
        clear hM
        go_wp2_with fail
        go_ret
        exact ⟨ret_bool HO.out.symm, BW.out _ HW.out⟩
  · have e1 : (!t0.toList.isEmpty) = true := by rw [empty_false hr]; rfl
    have e2 := empty_false hr
    have HO := hid (lgrs_root hs l _ hx0n hr)
    clear hr hx0n
    go_enter Tryz.func57, Tryz.ntmps57
    go_wp2_with fail
    go_ret
    exact ⟨ret_bool HO.out.symm, HB0.out⟩
end Go.Proofs.YtlifaeleoiodkaaGreatDoor

/-
  WALKS: ValidTree of the program.
-/
namespace Go.Proofs.YtlifaeleoiodkaaGreatDoor
open Go.RowKit Nm
set_option linter.unusedSimpArgs false
set_option linter.unusedVariables false

/-- a tree in memory -/
def TreeAt (w : World) (B : Nat) (v : Value) (ls : List LgrV) (hs : List HndV) (q : Int) : Prop :=
  ∃ A1 n1 k1 A2 n2 k2, v = .agg #[.slice A1 n1 k1, .slice A2 n2 k2, .int .i64 q] ∧ Ls w B n1 (.slice A1 n1 k1) ls ∧ Hs w B n2 (.slice A2 n2 k2) hs ∧ n1 ≤ 1048576 ∧ n2 ≤ 1048576 ∧ ∀ x ∈ ls, x.hn ≤ 1048576
theorem TreeAt.below {w w' : World} {B B' : Nat} {v : Value} {ls : List LgrV} {hs : List HndV} {q : Int} (h : TreeAt w B v ls hs q) (hb : Below B' w w') (hB : B ≤ B') : TreeAt w' B v ls hs q := by
  obtain ⟨A1, n1, k1, A2, n2, k2, e, h1, h2, r⟩ := h
  exact ⟨A1, n1, k1, A2, n2, k2, e, h1.below hb hB, h2.below hb hB, r⟩
theorem TreeAt.more {w : World} {B B' : Nat} {v : Value} {ls : List LgrV} {hs : List HndV} {q : Int} (h : TreeAt w B v ls hs q) (hB : B ≤ B') : TreeAt w B' v ls hs q := by
  obtain ⟨A1, n1, k1, A2, n2, k2, e, h1, h2, r⟩ := h
  exact ⟨A1, n1, k1, A2, n2, k2, e, h1.more hB, h2.more hB, r⟩

set_option maxHeartbeats 4000000 in
set_option maxRecDepth 100000 in
theorem implValidTree_c (v : Value) (B : Nat) (ls : List LgrV) (hs : List HndV) (q : Int) (w : World) (h : TreeAt w B v ls hs q) (hB : B ≤ w.heap.size) :
    Calls Tryz.prog 24 #[v] w (BoolPost w (treeOk (lsOf ls) (hsOf hs) q)) := by
  obtain ⟨A1, n1, k1, A2, n2, k2, rfl, h1, h2, hn1, hn2, hh⟩ := h
  have hb0 : Below w.heap.size w (w.alloc (.cells #[.slice A1 n1 k1, .slice A2 n2 k2, .int .i64 q] 36)) := (Below.refl _ _).alloc (Nat.le_refl _) _
  have LV := hid (fun W => isLevel_c q W)
  have VH := hid (fun (W : World) (hW : Below w.heap.size w W) => implHandlers_c (.slice A2 n2 k2) n2 B hs W (h2.below hW hB) (by have := hW.size; omega))
  have VL := hid (fun (W : World) (hW : Below w.heap.size w W) => implLoggers_c A1 A2 n1 k1 n2 k2 B q ls hs W (h1.below hW hB) (h2.below hW hB) (by have := hW.size; omega) hn1 hn2 hh)
  have CX := hid (fun (W : World) (hb : Below (w.alloc (.cells #[.slice A1 n1 k1, .slice A2 n2 k2, .int .i64 q] 36)).heap.size (w.alloc (.cells #[.slice A1 n1 k1, .slice A2 n2 k2, .int .i64 q] 36)) W) (j : Nat) =>
    (hb.cell (p := ⟨w.heap.size, j, none⟩) (by simp)).trans (cell_of_row _ w.heap.size j _ _ _ (heap_alloc_new w _)))
  have HE := hid (show treeOk (lsOf ls) (hsOf hs) q = (lvOk q && (hndsOk (hsOf hs) && lgrsOk (hsOf hs) (lsOf ls))) from rfl)
  have HB0 := hid hb0
  generalize treeOk (lsOf ls) (hsOf hs) q = z at HE ⊢
  generalize lvOk q = a at LV HE
  generalize hndsOk (hsOf hs) = b at VH HE
  generalize lgrsOk (hsOf hs) (lsOf ls) = c at VL HE
  clear h1 h2 hn1 hn2 hh hb0
  go_enter Tryz.func24, Tryz.ntmps24
  go_wp2_with fail
  refine (LV.out _).mono ?_
  rintro e w1 ⟨rfl, rfl⟩
  cases a with
  | false =>
    go_wp2_with fail
    go_ret
    exact ⟨ret_bool (by rw [HE.out]; rfl), HB0.out⟩
  | true =>
    go_wp2_with fail
    refine (VH.out _ HB0.out).mono ?_
    rintro e w2 ⟨rfl, hb2⟩
    have d0 : w2.cell? ⟨w.heap.size, 0, none⟩ = some (.slice A1 n1 k1) := CX.out w2 hb2 0
    have d1 : w2.cell? ⟨w.heap.size, 1, none⟩ = some (.slice A2 n2 k2) := CX.out w2 hb2 1
    have d2 : w2.cell? ⟨w.heap.size, 2, none⟩ = some (.int .i64 q) := CX.out w2 hb2 2
    have HB2 := hid (HB0.out.trans (hb2.mono HB0.out.size))
    clear hb2
    cases b with
    | false =>
      go_wp2_with fail
      go_ret
      exact ⟨ret_bool (by rw [HE.out]; rfl), HB2.out⟩
    | true =>
      go_wp2_with fail
      refine (VL.out _ HB2.out).mono ?_
      rintro e w3 ⟨rfl, hb3⟩
      have HB3 := hid (HB2.out.trans (hb3.mono HB2.out.size))
      clear hb3 d0 d1 d2
      go_wp2_with fail
      go_ret
      exact ⟨ret_bool (by rw [HE.out]; rfl), HB3.out⟩
end Go.Proofs.YtlifaeleoiodkaaGreatDoor

/-
  WALKS: validHandlers of the model.
-/
namespace Go.Proofs.YtlifaeleoiodkaaGreatDoor
open Go.RowKit Nm
set_option linter.unusedSimpArgs false
set_option linter.unusedVariables false

theorem Hs.cut {w : World} {B n c : Nat} {A : Option Addr} {l : List HndV} (h : Hs w B n (.slice A n c) l) {k : Nat} (hk : k ≤ n) : Hs w B k (.slice A k c) (l.take k) := by
  have hl := h.count
  obtain ⟨⟨hl3, A', c', he, h2, h3, h4⟩, h5⟩ := h
  obtain ⟨rfl, rfl⟩ : A = A' ∧ c = c' := by simpa using he
  refine ⟨⟨by rw [flat_len _ 3 hcells_len, List.length_take]; omega, A, c, rfl, by omega, h3, fun h0 => ?_⟩, fun x hx => h5 x (List.mem_of_mem_take hx)⟩
  obtain ⟨b, o, e, hb, hc⟩ := h4 (by omega)
  refine ⟨b, o, e, hb, fun j u hu => hc j u ?_⟩
  have hj : j < k * 3 := by have := (List.getElem?_eq_some_iff.1 hu).1; rw [flat_len _ 3 hcells_len, List.length_take] at this; omega
  have hq : j / 3 < l.length := by omega
  have hx : l[j / 3]? = some (l[j / 3]'hq) := List.getElem?_eq_getElem hq
  have hxt : (l.take k)[j / 3]? = some (l[j / 3]'hq) := by rw [List.getElem?_take, if_pos (by omega)]; exact hx
  have e1 := flat_at hcells 3 hcells_len _ (j / 3) (j % 3) _ hxt (Nat.mod_lt _ (by omega))
  have e2 := flat_at hcells 3 hcells_len _ (j / 3) (j % 3) _ hx (Nat.mod_lt _ (by omega))
  rw [show j / 3 * 3 + j % 3 = j by omega] at e1 e2
  rw [e2, ← e1, hu]
theorem hnames_take (l : List HndV) (k : Nat) : hnames (l.take k) = (hnames l).take k := by unfold hnames; rw [List.map_take]
theorem lv_range (n : Int) : (decide (0 ≤ n) && decide (n ≤ 60)) = lvOk n := rfl

set_option maxHeartbeats 6000000 in
set_option maxRecDepth 100000 in
theorem specHandlers_c (v : Value) (n B : Nat) (l : List HndV) (w : World) (hv : Hs w B n v l) (hB : B ≤ w.heap.size) :
    Calls Tryz.prog 67 #[v] w (BoolPost w (hndsOk (hsOf l))) := by
  have hln := hv.count
  obtain ⟨A, c, rfl, hnc, hcm⟩ := hv.1.form
  unfold maxLen at hcm
  have HV := hid (And.intro hv hln)
  clear hv hln
  go_enter Tryz.func67, Tryz.ntmps67
  go_wp2_with fail
  go_loopw [3] (fun iv wr => ∃ k : Nat, iv = .int .i64 k ∧ k ≤ n ∧ Hid ((∀ x ∈ l.take k, hndOk x.h = true) ∧ ((hnames l).take k).Nodup) ∧ Hid (Below w.heap.size w wr)) (fun iv _ => n - (intOf iv).toNat)
  case atStart => exact ⟨0, rfl, by omega, ⟨by simp, by simp⟩, Below.refl _ _⟩
  case round =>
    obtain ⟨k, rfl, hk, HA, HW⟩ := hrel
    by_cases hlt : k < n
    · obtain ⟨b, o, x, t, rfl, hb, hx, ht, hts, hF, g0, g1, g2⟩ := HV.out.1.at_ hlt
      obtain ⟨A3, k3, hfv, _, _⟩ := hF.1.form
      rw [hfv] at g2
      have c0 : wr.cell? ⟨b, o + k * 3, none⟩ = some (.string t) := (HW.out.cell (p := ⟨b, o + k * 3, none⟩) (by show b < _; omega)).trans g0
      have c1 : wr.cell? ⟨b, o + k * 3 + 1, none⟩ = some (.int .i64 x.h.lv) := (HW.out.cell (p := ⟨b, o + k * 3 + 1, none⟩) (by show b < _; omega)).trans g1
      have c2 : wr.cell? ⟨b, o + k * 3 + 2, none⟩ = some (.slice A3 x.fn k3) := (HW.out.cell (p := ⟨b, o + k * 3 + 2, none⟩) (by show b < _; omega)).trans g2
      have hmt : t.size ≤ maxLen := by unfold maxTxt at hts; unfold maxLen; omega
      have hxn : (hnames l)[k]? = some t.data.toList := by unfold hnames; rw [List.getElem?_map, hx, ht]; rfl
      have HX := hid (And.intro hx (And.intro hxn ht))
      have HW0 := hid (HW.out.alloc HW.out.size (.cells #[.string t, .int .i64 x.h.lv, .slice A3 x.fn k3] 125))
      rw [hfv] at hF
      have HF := hid hF
      have hcut := HV.out.1.cut hk
      have IW := hid (fun W => validWord_c t W hmt)
      have LV := hid (fun W => inRange_c x.h.lv 0 60 W)
      have AT := hid (fun (W : World) (hW : Below w.heap.size w W) => handlerAt_c (.slice (some ⟨b, o, none⟩) k c) k B (l.take k) t W (hcut.below hW hB))
      have VF := hid (fun (W : World) (hW : Below w.heap.size w W) => validFilters_c (.slice A3 x.fn k3) x.fn B x.h.fs W (hF.below hW hB) (by have := hW.size; omega))
      rw [lv_range] at LV
      rw [hnames_take] at AT
      have HE := hid (show hndOk x.h = (wordOk t.data.toList && (!decide (t.data.toList = lastL) && (lvOk x.h.lv && filtersOk x.h.fs))) by unfold hndOk; rw [ht])
      have e1 := last_eq t
      clear hx hxn ht g0 g1 g2 hF hfv hcut
      cases hq : wordOk t.data.toList with
      | false =>
        rw [hq] at IW HE
        have HO := hid (hnds_bad l k x HX.out.1 (by rw [HE.out]; rfl))
        clear hq
        go_wp2_with fail
        go_quiet ((go_at_call 69; exact Calls.quiet_of_same (IW.out _)))
        go_wp2_with fail
        go_ret
        exact ⟨ret_bool HO.out.symm, below_dr HW0.out _⟩
      | true =>
        rw [hq] at IW HE
        clear hq
        cases hl : decide (t.data.toList = lastL) with
        | true =>
          rw [hl] at e1 HE
          have HO := hid (hnds_bad l k x HX.out.1 (by rw [HE.out]; rfl))
          clear hl
          go_wp2_with fail
          go_quiet ((go_at_call 69; exact Calls.quiet_of_same (IW.out _)))
          go_wp2_with fail
          go_ret
          exact ⟨ret_bool HO.out.symm, below_dr HW0.out _⟩
        | false =>
          rw [hl] at e1 HE
          clear hl
          have hidx := idx_neg ((hnames l).take k) t.data.toList
          generalize idxL ((hnames l).take k) t.data.toList = z at AT hidx
          by_cases hz : 0 ≤ z
          · have hd : decide (0 ≤ z) = true := by simpa using hz
            have HO := hid (hnds_dup l k _ HX.out.2.1 (Classical.not_not.1 (fun h => by have := hidx.2 h; omega)))
            clear hidx
            go_wp2_with fail
            go_quiet ((first | (go_at_call 69; exact Calls.quiet_of_same (IW.out _)) | (go_at_call 77; exact Calls.quiet_of_same (AT.out _ (below_dr HW0.out _)))))
            go_wp2_with fail
            go_ret
            exact ⟨ret_bool HO.out.symm, below_dr HW0.out _⟩
          · have hd : decide (0 ≤ z) = false := by simpa using hz
            have HS := hid (hidx.1 (by omega))
            clear hidx
            cases hv : lvOk x.h.lv with
            | false =>
              rw [hv] at LV HE
              have HO := hid (hnds_bad l k x HX.out.1 (by rw [HE.out]; rfl))
              clear hv
              go_wp2_with fail
              go_quiet ((first | (go_at_call 69; exact Calls.quiet_of_same (IW.out _)) | (go_at_call 77; exact Calls.quiet_of_same (AT.out _ (below_dr HW0.out _))) | (go_at_call 66; exact Calls.quiet_of_same (LV.out _))))
              go_wp2_with fail
              go_ret
              exact ⟨ret_bool HO.out.symm, below_dr HW0.out _⟩
            | true =>
              rw [hv] at LV HE
              clear hv
              cases hf : filtersOk x.h.fs with
              | false =>
                rw [hf] at VF HE
                have HO := hid (hnds_bad l k x HX.out.1 (by rw [HE.out]; rfl))
                clear hf
                have s0 : (0 : Int) ≤ (k : Int) := by omega
                have s1 : (k : Int) ≤ (c : Int) := by omega
                have s2 : ((k : Int)).toNat = k := by simp
                have s3 : k ≤ c := by omega
                have d0 : (wr.alloc (.cells #[.string t, .int .i64 x.h.lv, .slice A3 x.fn k3] 125)).cell? ⟨wr.heap.size, 0, none⟩ = some (.string t) := cell_of_row _ _ _ _ _ _ (heap_alloc_new wr _)
                have d1 : (wr.alloc (.cells #[.string t, .int .i64 x.h.lv, .slice A3 x.fn k3] 125)).cell? ⟨wr.heap.size, 1, none⟩ = some (.int .i64 x.h.lv) := cell_of_row _ _ _ _ _ _ (heap_alloc_new wr _)
                have d2 : (wr.alloc (.cells #[.string t, .int .i64 x.h.lv, .slice A3 x.fn k3] 125)).cell? ⟨wr.heap.size, 2, none⟩ = some (.slice A3 x.fn k3) := cell_of_row _ _ _ _ _ _ (heap_alloc_new wr _)
                go_wp2_with fail
                go_region_held3 (fun w' => w'.cell? ⟨wr.heap.size, 0, none⟩ = some (.string t) ∧ w'.cell? ⟨wr.heap.size, 1, none⟩ = some (.int .i64 x.h.lv) ∧ w'.cell? ⟨wr.heap.size, 2, none⟩ = some (.slice A3 x.fn k3)) (first | go_keep | exact ⟨(hb9.cell (p := ⟨wr.heap.size, 0, none⟩) (by simp)).trans d0, (hb9.cell (p := ⟨wr.heap.size, 1, none⟩) (by simp)).trans d1, (hb9.cell (p := ⟨wr.heap.size, 2, none⟩) (by simp)).trans d2⟩) (first | (go_at_call 69; refine (IW.out _).mono ?_; rintro e w9 ⟨rfl, rfl⟩) | (go_at_call 77; refine (AT.out _ (by first | exact HW0.out | exact HW0.out.drew | exact HW0.out.drew.drew | exact HW0.out.drew.drew.drew | exact HW0.out.drew.drew.drew.drew | exact HW0.out.drew.drew.drew.drew.drew)).mono ?_; rintro e w9 ⟨rfl, rfl⟩) | (go_at_call 66; refine (LV.out _).mono ?_; rintro e w9 ⟨rfl, rfl⟩) | (go_at_call 107; refine (VF.out _ (by first | exact HW0.out | exact HW0.out.drew | exact HW0.out.drew.drew | exact HW0.out.drew.drew.drew | exact HW0.out.drew.drew.drew.drew | exact HW0.out.drew.drew.drew.drew.drew)).mono ?_; rintro e w9 ⟨rfl, hb9⟩))
                all_goals go_wp2_with fail
                all_goals go_ret
                all_goals exact ⟨ret_bool HO.out.symm, by first | exact HW0.out.trans (hb9.mono HW0.out.size) | exact HW0.out.drew.trans (hb9.mono HW0.out.drew.size)⟩
              | true =>
                rw [hf] at VF HE
                clear hf
                have s0 : (0 : Int) ≤ (k : Int) := by omega
                have s1 : (k : Int) ≤ (c : Int) := by omega
                have s2 : ((k : Int)).toNat = k := by simp
                have s3 : k ≤ c := by omega
                have d0 : (wr.alloc (.cells #[.string t, .int .i64 x.h.lv, .slice A3 x.fn k3] 125)).cell? ⟨wr.heap.size, 0, none⟩ = some (.string t) := cell_of_row _ _ _ _ _ _ (heap_alloc_new wr _)
                have d1 : (wr.alloc (.cells #[.string t, .int .i64 x.h.lv, .slice A3 x.fn k3] 125)).cell? ⟨wr.heap.size, 1, none⟩ = some (.int .i64 x.h.lv) := cell_of_row _ _ _ _ _ _ (heap_alloc_new wr _)
                have d2 : (wr.alloc (.cells #[.string t, .int .i64 x.h.lv, .slice A3 x.fn k3] 125)).cell? ⟨wr.heap.size, 2, none⟩ = some (.slice A3 x.fn k3) := cell_of_row _ _ _ _ _ _ (heap_alloc_new wr _)
                go_wp2_with fail
                go_region_held3 (fun w' => w'.cell? ⟨wr.heap.size, 0, none⟩ = some (.string t) ∧ w'.cell? ⟨wr.heap.size, 1, none⟩ = some (.int .i64 x.h.lv) ∧ w'.cell? ⟨wr.heap.size, 2, none⟩ = some (.slice A3 x.fn k3)) (first | go_keep | exact ⟨(hb9.cell (p := ⟨wr.heap.size, 0, none⟩) (by simp)).trans d0, (hb9.cell (p := ⟨wr.heap.size, 1, none⟩) (by simp)).trans d1, (hb9.cell (p := ⟨wr.heap.size, 2, none⟩) (by simp)).trans d2⟩) (first | (go_at_call 69; refine (IW.out _).mono ?_; rintro e w9 ⟨rfl, rfl⟩) | (go_at_call 77; refine (AT.out _ (by first | exact HW0.out | exact HW0.out.drew | exact HW0.out.drew.drew | exact HW0.out.drew.drew.drew | exact HW0.out.drew.drew.drew.drew | exact HW0.out.drew.drew.drew.drew.drew)).mono ?_; rintro e w9 ⟨rfl, rfl⟩) | (go_at_call 66; refine (LV.out _).mono ?_; rintro e w9 ⟨rfl, rfl⟩) | (go_at_call 107; refine (VF.out _ (by first | exact HW0.out | exact HW0.out.drew | exact HW0.out.drew.drew | exact HW0.out.drew.drew.drew | exact HW0.out.drew.drew.drew.drew | exact HW0.out.drew.drew.drew.drew.drew)).mono ?_; rintro e w9 ⟨rfl, hb9⟩))
                all_goals go_wp2_with fail
                all_goals
                  go_roundw
                  case rel =>
                    refine ⟨k + 1, by go_num, by omega, ⟨?_, nodup_step _ k _ HX.out.2.1 HA.out.2 HS.out⟩, by first | exact HW0.out.trans (hb9.mono HW0.out.size) | exact HW0.out.drew.trans (hb9.mono HW0.out.drew.size)⟩
                    intro y hy
                    rcases mem_take_succ l k x y HX.out.1 hy with rfl | hy
                    · rw [HE.out]; rfl
                    · exact HA.out.1 y hy
                  case measure => simp [intOf]; omega
    · have HO := hid (show hndsOk (hsOf l) = decide ((n : Int) ≤ 6) by
        have h1 := HA.out
        have hln := HV.out.2
        rw [List.take_of_length_le (by omega), List.take_of_length_le (by unfold hnames; simp; omega)] at h1
        unfold hndsOk
        rw [hnames_eq, decide_eq_true h1.2]
        have h3 : (hsOf l).all hndOk = true := by
          rw [List.all_eq_true]; intro y hy
          obtain ⟨x, hx, rfl⟩ := List.mem_map.1 hy
          exact h1.1 x hx
        rw [h3, Bool.true_and, Bool.true_and]
        exact decide_eq_decide.2 (by unfold hsOf; rw [List.length_map]; omega))
      go_wp2_with fail
      go_ret
      exact ⟨ret_bool HO.out.symm, HW.out⟩
end Go.Proofs.YtlifaeleoiodkaaGreatDoor

/-
  WALKS: validLogger of the model.
-/
namespace Go.Proofs.YtlifaeleoiodkaaGreatDoor
open Go.RowKit Nm
set_option linter.unusedSimpArgs false
set_option linter.unusedVariables false

theorem Txts.cut {w : World} {B n c : Nat} {A : Option Addr} {l : List (List UInt8)} (h : Txts w B n (.slice A n c) l) {k : Nat} (hk : k ≤ n) : Txts w B k (.slice A k c) (l.take k) := by
  have hl := h.count
  obtain ⟨⟨hl3, A', c', he, h2, h3, h4⟩, h5⟩ := h
  obtain ⟨rfl, rfl⟩ : A = A' ∧ c = c' := by simpa using he
  refine ⟨⟨by rw [List.length_map, List.length_take]; omega, A, c, rfl, by omega, h3, fun h0 => ?_⟩, fun x hx => h5 x (List.mem_of_mem_take hx)⟩
  obtain ⟨b, o, e, hb, hc⟩ := h4 (by omega)
  refine ⟨b, o, e, hb, fun j u hu => hc j u ?_⟩
  rw [List.map_take, List.getElem?_take] at hu
  by_cases hj : j < k
  · rwa [if_pos hj] at hu
  · rw [if_neg hj] at hu; cases hu
theorem mem_le {w : World} {B n : Nat} {v : Value} {l : List (List UInt8)} (h : Txts w B n v l) {k : Nat} {t : ByteArray} (hx : l[k]? = some t.data.toList) : t.size ≤ maxTxt := by
  rw [Lib.size_eq]; exact h.2 _ (List.mem_of_getElem? hx)
theorem lgr_ref (hs : List HndV) (l : Lgr) (k : Nat) (x : List UInt8) (hx : l.hs[k]? = some x) (h : x ∉ hnames hs) : lgrOk (hsOf hs) l = false := by
  rw [lgr_eq]
  have : l.hs.all (fun x => decide (x ∈ hnames hs)) = false := by
    rw [Bool.eq_false_iff]; intro hn
    rw [List.all_eq_true] at hn
    exact h (by simpa using hn x (List.mem_of_getElem? hx))
  rw [this]; simp
theorem lgr_dup (hs : List HndV) (l : Lgr) (k : Nat) (x : List UInt8) (hx : l.hs[k]? = some x) (h : x ∈ l.hs.take k) : lgrOk (hsOf hs) l = false := by
  rw [lgr_eq, decide_eq_false (not_nodup _ k x hx h)]; simp
theorem lgr_rest (hs : List HndV) (l : Lgr) (h1 : ∀ x ∈ l.hs, x ∈ hnames hs) (h2 : l.hs.Nodup) : lgrOk (hsOf hs) l = (nameOk l.nm && (lvOk l.lv && filtersOk l.fs)) := by
  have : l.hs.all (fun x => decide (x ∈ hnames hs)) = true := by rw [List.all_eq_true]; intro x hx; simpa using h1 x hx
  rw [lgr_eq, this, decide_eq_true h2]; simp

set_option maxHeartbeats 6000000 in
set_option maxRecDepth 100000 in
theorem specLogger_c (s : ByteArray) (g : Lgr) (A3 A4 : Option Addr) (hn k3 fn k4 n2 B : Nat) (v2 : Value) (hs : List HndV) (w : World) (hg : s.data.toList = g.nm) (hsz : s.size ≤ maxTxt)
    (hH : Txts w B hn (.slice A3 hn k3) g.hs) (hF : Fs w B fn (.slice A4 fn k4) g.fs) (h2 : Hs w B n2 v2 hs) (hB : B ≤ w.heap.size) :
    Calls Tryz.prog 64 #[.agg #[.string s, .int .i64 g.lv, .slice A3 hn k3, .slice A4 fn k4, .bool g.stop, .bool g.off], v2] w (BoolPost w (lgrOk (hsOf hs) g)) := by
  have c2 := h2.count
  have hcn := hH.count
  obtain ⟨A3', k3', he3, hnk, hkm⟩ := hH.1.form
  obtain ⟨rfl, rfl⟩ : A3 = A3' ∧ k3 = k3' := by simpa using he3
  unfold maxLen at hkm
  obtain ⟨A2, k2, rfl, _, _⟩ := h2.1.form
  have HV := hid (And.intro hH (And.intro hF (And.intro h2 (And.intro hg hsz))))
  have HB0 := hid (show Below w.heap.size w (w.alloc (.cells #[.string s, .int .i64 g.lv, .slice A3 hn k3, .slice A4 fn k4, .bool g.stop, .bool g.off] 112)) from (Below.refl _ _).alloc (Nat.le_refl _) _)
  have HSZ := hid (show (w.alloc (.cells #[.string s, .int .i64 g.lv, .slice A3 hn k3, .slice A4 fn k4, .bool g.stop, .bool g.off] 112)).heap.size = w.heap.size + 1 by simp)
  have BX := hid (fun (W : World) (hW : Below (w.heap.size + 1) (w.alloc (.cells #[.string s, .int .i64 g.lv, .slice A3 hn k3, .slice A4 fn k4, .bool g.stop, .bool g.off] 112)) W) (j : Nat) => (hW.cell (p := ⟨w.heap.size, j, none⟩) (by show w.heap.size < _; omega)).trans (cell_of_row _ w.heap.size j _ _ _ (heap_alloc_new w _)))
  have BW := hid (fun (W : World) (hW : Below (w.heap.size + 1) (w.alloc (.cells #[.string s, .int .i64 g.lv, .slice A3 hn k3, .slice A4 fn k4, .bool g.stop, .bool g.off] 112)) W) => HB0.out.trans (hW.mono (by omega)))
  have VN := hid (fun W => validName_c s W (by unfold maxTxt at hsz; omega))
  have LV := hid (fun W => inRange_c g.lv 0 60 W)
  have VF := hid (fun (W : World) (hW : Below w.heap.size w W) => validFilters_c (.slice A4 fn k4) fn B g.fs W (hF.below hW hB) (by have := hW.size; omega))
  have AT := hid (fun (t : ByteArray) (W : World) (hW : Below w.heap.size w W) => handlerAt_c (.slice A2 n2 k2) n2 B hs t W (h2.below hW hB))
  have HT := hid (fun (k : Nat) (hk : k ≤ hn) (t : ByteArray) (W : World) (hW : Below w.heap.size w W) => hasText_c (.slice A3 k k3) k B (g.hs.take k) t W ((hH.cut hk).below hW hB))
  rw [lv_range] at LV
  rw [hg] at VN
  clear hH hF h2 hg hsz
  go_enter Tryz.func64, Tryz.ntmps64
  go_wp2_with fail
  go_loopw [5] (fun iv wr => ∃ k : Nat, iv = .int .i64 k ∧ k ≤ hn ∧ Hid ((∀ x ∈ g.hs.take k, x ∈ hnames hs) ∧ (g.hs.take k).Nodup) ∧ Hid (Below (w.heap.size + 1) (w.alloc (.cells #[.string s, .int .i64 g.lv, .slice A3 hn k3, .slice A4 fn k4, .bool g.stop, .bool g.off] 112)) wr)) (fun iv _ => hn - (intOf iv).toNat)
  case atStart => exact ⟨0, rfl, by omega, ⟨by simp, by simp⟩, Below.refl _ _⟩
  case round =>
    obtain ⟨k, rfl, hk, HA, HW⟩ := hrel
    have hW := BW.out _ HW.out
    have d0 : wr.cell? ⟨w.heap.size, 0, none⟩ = some (.string s) := BX.out _ HW.out 0
    have d1 : wr.cell? ⟨w.heap.size, 1, none⟩ = some (.int .i64 g.lv) := BX.out _ HW.out 1
    have d2 : wr.cell? ⟨w.heap.size, 2, none⟩ = some (.slice A3 hn k3) := BX.out _ HW.out 2
    have d3 : wr.cell? ⟨w.heap.size, 3, none⟩ = some (.slice A4 fn k4) := BX.out _ HW.out 3
    by_cases hlt : k < hn
    · obtain ⟨b, o, t, rfl, hb, hx, hts, g0⟩ := HV.out.1.text hlt
      have c0 : wr.cell? ⟨b, o + k, none⟩ = some (.string t) := (hW.cell (p := ⟨b, o + k, none⟩) (by show b < _; omega)).trans g0
      have AT1 := hid (AT.out t)
      have HT1 := hid (HT.out k hk t)
      have HX := hid hx
      have HW' := hid hW
      clear hx g0 hW
      have s0 : (0 : Int) ≤ (k : Int) := by omega
      have s1 : (k : Int) ≤ (k3 : Int) := by omega
      have s2 : ((k : Int)).toNat = k := by simp
      have s3 : k ≤ k3 := by omega
      have hidx := idx_neg (hnames hs) t.data.toList
      generalize idxL (hnames hs) t.data.toList = z at AT1 hidx
      by_cases hz : z < 0
      · have hd : decide (z < 0) = true := by simpa using hz
        have HO := hid (lgr_ref hs g k _ HX.out (hidx.1 hz))
        clear hidx
        go_wp2_with fail
        go_quiet ((first | (go_at_call 77; exact Calls.quiet_of_same (AT1.out _ (below_dr HW'.out _))) | (go_at_call 106; exact Calls.quiet_of_same (HT1.out _ (below_dr HW'.out _)))))
        go_wp2_with fail
        go_ret
        exact ⟨ret_bool HO.out.symm, below_dr HW'.out _⟩
      · have hd : decide (z < 0) = false := by simpa using hz
        have HS := hid (Classical.not_not.1 (fun h => hz (hidx.2 h)))
        clear hidx
        cases hm : decide (t.data.toList ∈ g.hs.take k) with
        | true =>
          rw [hm] at HT1
          have HO := hid (lgr_dup hs g k _ HX.out (by simpa using hm))
          clear hm
          go_wp2_with fail
          go_quiet ((first | (go_at_call 77; exact Calls.quiet_of_same (AT1.out _ (below_dr HW'.out _))) | (go_at_call 106; exact Calls.quiet_of_same (HT1.out _ (below_dr HW'.out _)))))
          go_wp2_with fail
          go_ret
          exact ⟨ret_bool HO.out.symm, below_dr HW'.out _⟩
        | false =>
          rw [hm] at HT1
          have HM := hid (of_decide_eq_false hm)
          clear hm
          go_wp2_with fail
          go_quiet ((first | (go_at_call 77; exact Calls.quiet_of_same (AT1.out _ (below_dr HW'.out _))) | (go_at_call 106; exact Calls.quiet_of_same (HT1.out _ (below_dr HW'.out _)))))
          go_wp2_with fail
          go_roundw
          case rel =>
            refine ⟨k + 1, by go_num, by omega, ⟨?_, nodup_step _ k _ HX.out HA.out.2 HM.out⟩, below_dr HW.out _⟩
            intro y hy
            rcases mem_take_succ g.hs k _ y HX.out hy with rfl | hy
            · exact HS.out
            · exact HA.out.1 y hy
          case measure => simp [intOf]; omega
    · have HO := hid (lgr_rest hs g (by have := HA.out.1; rwa [List.take_of_length_le (by omega)] at this) (by have := HA.out.2; rwa [List.take_of_length_le (by omega)] at this))
      have hszr : w.heap.size + 1 ≤ wr.heap.size := by have := HW.out.size; have := HSZ.out; omega
      have HZ := hid hszr
      have HW' := hid hW
      clear hW hszr
      generalize nameOk g.nm = a at VN HO
      generalize lvOk g.lv = e1 at LV HO
      generalize filtersOk g.fs = e2 at VF HO
      clear d0 d1 d2 d3
      have d0 : wr.cell? ⟨w.heap.size, 0, none⟩ = some (.string s) := BX.out _ HW.out 0
      have d2 : wr.cell? ⟨w.heap.size, 2, none⟩ = some (.slice A3 hn k3) := BX.out _ HW.out 2
      go_wp2_with fail
      refine (VN.out wr).mono ?_
      rintro e w1 ⟨rfl, hb1⟩
      have HW1 := hid (HW.out.trans (hb1.mono (by have := HZ.out; omega)))
      have d1 : w1.cell? ⟨w.heap.size, 1, none⟩ = some (.int .i64 g.lv) := BX.out _ HW1.out 1
      have d3 : w1.cell? ⟨w.heap.size, 3, none⟩ = some (.slice A4 fn k4) := BX.out _ HW1.out 3
      clear hb1 d0 d2
      cases a with
      | false =>
        go_wp2_with fail
        go_ret
        exact ⟨ret_bool (by rw [HO.out]; rfl), BW.out _ HW1.out⟩
      | true =>
        go_wp2_with fail
        refine (LV.out w1).mono ?_
        rintro e w2 ⟨rfl, rfl⟩
        cases e1 with
        | false =>
          go_wp2_with fail
          go_ret
          exact ⟨ret_bool (by rw [HO.out]; rfl), BW.out _ HW1.out⟩
        | true =>
          go_wp2_with fail
          refine (VF.out _ (BW.out _ HW1.out)).mono ?_
          rintro e w3 ⟨rfl, hb3⟩
          have HW3 := hid ((BW.out _ HW1.out).trans (hb3.mono (BW.out _ HW1.out).size))
          clear hb3
          cases e2 with
          | false =>
            go_wp2_with fail
            go_ret
            exact ⟨ret_bool (by rw [HO.out]; rfl), HW3.out⟩
          | true =>
            go_wp2_with fail
            go_ret
            exact ⟨ret_bool (by rw [HO.out]; rfl), HW3.out⟩
end Go.Proofs.YtlifaeleoiodkaaGreatDoor

/-
  WALKS: ValidTree of the model.
-/
namespace Go.Proofs.YtlifaeleoiodkaaGreatDoor
open Go.RowKit Nm
set_option linter.unusedSimpArgs false
set_option linter.unusedVariables false

theorem Ls.cut {w : World} {B n c : Nat} {A : Option Addr} {l : List LgrV} (h : Ls w B n (.slice A n c) l) {k : Nat} (hk : k ≤ n) : Ls w B k (.slice A k c) (l.take k) := by
  have hl := h.count
  obtain ⟨⟨hl3, A', c', he, h2, h3, h4⟩, h5⟩ := h
  obtain ⟨rfl, rfl⟩ : A = A' ∧ c = c' := by simpa using he
  refine ⟨⟨by rw [flat_len _ 6 lcells_len, List.length_take]; omega, A, c, rfl, by omega, h3, fun h0 => ?_⟩, fun x hx => h5 x (List.mem_of_mem_take hx)⟩
  obtain ⟨b, o, e, hb, hc⟩ := h4 (by omega)
  refine ⟨b, o, e, hb, fun j u hu => hc j u ?_⟩
  have hj : j < k * 6 := by have := (List.getElem?_eq_some_iff.1 hu).1; rw [flat_len _ 6 lcells_len, List.length_take] at this; omega
  have hq : j / 6 < l.length := by omega
  have hx : l[j / 6]? = some (l[j / 6]'hq) := List.getElem?_eq_getElem hq
  have hxt : (l.take k)[j / 6]? = some (l[j / 6]'hq) := by rw [List.getElem?_take, if_pos (by omega)]; exact hx
  have e1 := flat_at lcells 6 lcells_len _ (j / 6) (j % 6) _ hxt (Nat.mod_lt _ (by omega))
  have e2 := flat_at lcells 6 lcells_len _ (j / 6) (j % 6) _ hx (Nat.mod_lt _ (by omega))
  rw [show j / 6 * 6 + j % 6 = j by omega] at e1 e2
  rw [e2, ← e1, hu]
theorem lnames_take (l : List LgrV) (k : Nat) : lnames (l.take k) = (lnames l).take k := by unfold lnames; rw [List.map_take]

set_option maxHeartbeats 6000000 in
set_option maxRecDepth 100000 in
theorem specTree_c (v : Value) (B : Nat) (ls : List LgrV) (hs : List HndV) (q : Int) (w : World) (h : TreeAt w B v ls hs q) (hB : B ≤ w.heap.size) :
    Calls Tryz.prog 32 #[v] w (BoolPost w (treeOk (lsOf ls) (hsOf hs) q)) := by
  obtain ⟨A1, n1, k1, A2, n2, k2, rfl, h1, h2, hn1, hn2, hh⟩ := h
  have cn1 := h1.count
  obtain ⟨A1', k1', he1, hnk, hkm⟩ := h1.1.form
  obtain ⟨rfl, rfl⟩ : A1 = A1' ∧ k1 = k1' := by simpa using he1
  unfold maxLen at hkm
  have HV := hid (And.intro h1 h2)
  have HB0 := hid (show Below w.heap.size w (w.alloc (.cells #[.slice A1 n1 k1, .slice A2 n2 k2, .int .i64 q] 36)) from (Below.refl _ _).alloc (Nat.le_refl _) _)
  have HSZ := hid (show (w.alloc (.cells #[.slice A1 n1 k1, .slice A2 n2 k2, .int .i64 q] 36)).heap.size = w.heap.size + 1 by simp)
  have BX := hid (fun (W : World) (hW : Below (w.heap.size + 1) (w.alloc (.cells #[.slice A1 n1 k1, .slice A2 n2 k2, .int .i64 q] 36)) W) (j : Nat) => (hW.cell (p := ⟨w.heap.size, j, none⟩) (by show w.heap.size < _; omega)).trans (cell_of_row _ w.heap.size j _ _ _ (heap_alloc_new w _)))
  have BW := hid (fun (W : World) (hW : Below (w.heap.size + 1) (w.alloc (.cells #[.slice A1 n1 k1, .slice A2 n2 k2, .int .i64 q] 36)) W) => HB0.out.trans (hW.mono (by omega)))
  have VH := hid (fun (W : World) (hW : Below w.heap.size w W) => specHandlers_c (.slice A2 n2 k2) n2 B hs W (h2.below hW hB) (by have := hW.size; omega))
  have LV := hid (fun W => inRange_c q 0 60 W)
  rw [lv_range] at LV
  have IN := hid (fun W => inRange_c n1 1 8 W)
  clear h1 h2 hn1 hn2 hh
  go_enter Tryz.func32, Tryz.ntmps32
  go_wp2_with fail
  go_loopw [3] (fun iv wr => ∃ k : Nat, iv = .int .i64 k ∧ k ≤ n1 ∧ Hid ((∀ x ∈ ls.take k, lgrOk (hsOf hs) x.l = true) ∧ ((lnames ls).take k).Nodup) ∧ Hid (Below (w.heap.size + 1) (w.alloc (.cells #[.slice A1 n1 k1, .slice A2 n2 k2, .int .i64 q] 36)) wr)) (fun iv _ => n1 - (intOf iv).toNat)
  case atStart => exact ⟨0, rfl, by omega, ⟨by simp, by simp⟩, Below.refl _ _⟩
  case round =>
    obtain ⟨k, rfl, hk, HA, HW⟩ := hrel
    have hW := BW.out _ HW.out
    have d0 : wr.cell? ⟨w.heap.size, 0, none⟩ = some (.slice A1 n1 k1) := BX.out _ HW.out 0
    have d1 : wr.cell? ⟨w.heap.size, 1, none⟩ = some (.slice A2 n2 k2) := BX.out _ HW.out 1
    have hszr : w.heap.size + 1 ≤ wr.heap.size := by have := HW.out.size; have := HSZ.out; omega
    by_cases hlt : k < n1
    · obtain ⟨b, o, x, t, rfl, hb, hx, ht, hts, hH, hF, g0, g1, g2, g3, g4, g5⟩ := HV.out.1.at_ hlt
      obtain ⟨A3, k3, hhv, _, _⟩ := hH.1.form
      obtain ⟨A4, k4, hfv, _, _⟩ := hF.1.form
      rw [hhv] at g2
      rw [hfv] at g3
      have c0 : wr.cell? ⟨b, o + k * 6, none⟩ = some (.string t) := (hW.cell (p := ⟨b, o + k * 6, none⟩) (by show b < _; omega)).trans g0
      have c1 : wr.cell? ⟨b, o + k * 6 + 1, none⟩ = some (.int .i64 x.l.lv) := (hW.cell (p := ⟨b, o + k * 6 + 1, none⟩) (by show b < _; omega)).trans g1
      have c2 : wr.cell? ⟨b, o + k * 6 + 2, none⟩ = some (.slice A3 x.hn k3) := (hW.cell (p := ⟨b, o + k * 6 + 2, none⟩) (by show b < _; omega)).trans g2
      have c3 : wr.cell? ⟨b, o + k * 6 + 3, none⟩ = some (.slice A4 x.fn k4) := (hW.cell (p := ⟨b, o + k * 6 + 3, none⟩) (by show b < _; omega)).trans g3
      have c4 : wr.cell? ⟨b, o + k * 6 + 4, none⟩ = some (.bool x.l.stop) := (hW.cell (p := ⟨b, o + k * 6 + 4, none⟩) (by show b < _; omega)).trans g4
      have c5 : wr.cell? ⟨b, o + k * 6 + 5, none⟩ = some (.bool x.l.off) := (hW.cell (p := ⟨b, o + k * 6 + 5, none⟩) (by show b < _; omega)).trans g5
      have hxn : (lnames ls)[k]? = some t.data.toList := by unfold lnames; rw [List.getElem?_map, hx, ht]; rfl
      have hbr : b < wr.heap.size := by omega
      have hwr : w.heap.size < wr.heap.size := by omega
      rw [hhv] at hH
      rw [hfv] at hF
      have h1c := HV.out.1.cut hk
      have HL := hid (fun (W : World) (hW : Below w.heap.size w W) => specLogger_c t x.l A3 A4 x.hn k3 x.fn k4 n2 B (.slice A2 n2 k2) hs W ht hts (hH.below hW hB) (hF.below hW hB) (HV.out.2.below hW hB) (by have := hW.size; omega))
      have LA := hid (fun (W : World) (hW : Below w.heap.size w W) => loggerAt_c (.slice (some ⟨b, o, none⟩) k k1) k B (ls.take k) t W (h1c.below hW hB))
      rw [lnames_take] at LA
      have HX := hid (And.intro hx (And.intro hxn ht))
      have HW' := hid hW
      clear hx hxn ht hts hH hF hhv hfv g0 g1 g2 g3 g4 g5 hW h1c
      have s0 : (0 : Int) ≤ (k : Int) := by omega
      have s1 : (k : Int) ≤ (k1 : Int) := by omega
      have s2 : ((k : Int)).toNat = k := by simp
      have s3 : k ≤ k1 := by omega
      have hidx := idx_neg ((lnames ls).take k) t.data.toList
      generalize idxL ((lnames ls).take k) t.data.toList = z at LA hidx
      have KEEP : ∀ W w9 : World, Below W.heap.size W w9 → wr.heap.size = W.heap.size → (∀ p : Addr, p.block < wr.heap.size → W.cell? p = wr.cell? p) → ∀ p : Addr, p.block < wr.heap.size → w9.cell? p = wr.cell? p := fun W w9 h e1 e2 p hp => (h.cell (by omega)).trans (e2 p hp)
      have KEEP := hid KEEP
      cases hl : lgrOk (hsOf hs) x.l with
      | false =>
        rw [hl] at HL
        have HO := hid (lgrs_bad hs ls k x HX.out.1 hl)
        clear hl hidx
        go_wp2_with fail
        refine wp_region_held_drew (S := (fun w' : World => w'.cell? ⟨w.heap.size, 0, none⟩ = some (.slice (some ⟨b, o, none⟩) n1 k1) ∧ w'.cell? ⟨w.heap.size, 1, none⟩ = some (.slice A2 n2 k2) ∧ w'.cell? ⟨b, o + k * 6, none⟩ = some (.string t) ∧ w'.cell? ⟨b, o + k * 6 + 1, none⟩ = some (.int .i64 x.l.lv) ∧ w'.cell? ⟨b, o + k * 6 + 2, none⟩ = some (.slice A3 x.hn k3) ∧ w'.cell? ⟨b, o + k * 6 + 3, none⟩ = some (.slice A4 x.fn k4) ∧ w'.cell? ⟨b, o + k * 6 + 4, none⟩ = some (.bool x.l.stop) ∧ w'.cell? ⟨b, o + k * 6 + 5, none⟩ = some (.bool x.l.off))) (by kernel_rfl) ⟨d0, d1, c0, c1, c2, c3, c4, c5⟩ (fun hS => ?_)
        refine wpAnyH_take (i := 0) (oi := ?oi101) (v := ?v101) ?hi101 (by kernel_rfl) ?hf101 ?hr101 ?hQ101 (Or.inl ⟨?hw101, ?hy101⟩) (by assumption) ?rest101
        case hi101 => simp only [List.getElem?_toArray, List.getElem?_cons_succ, List.getElem?_cons_zero]; rfl
        case hf101 => kernel_rfl
        case hr101 => kernel_rfl
        case hw101 => rfl
        case hy101 => (intro w hSw; (try dsimp only at hSw); go_simp; all_goals (first | done | with_reducible rfl))
        case hQ101 => exact fun _ _ _ h => h
        simp only [Act.put, List.setIfInBounds_toArray, List.set_cons_zero, List.set_cons_succ]
        refine wpAnyH_take (i := 1) (oi := ?oi102) (v := ?v102) ?hi102 (by kernel_rfl) ?hf102 ?hr102 ?hQ102 (Or.inl ⟨?hw102, ?hy102⟩) (by assumption) ?rest102
        case hi102 => simp only [List.getElem?_toArray, List.getElem?_cons_succ, List.getElem?_cons_zero]; rfl
        case hf102 => kernel_rfl
        case hr102 => kernel_rfl
        case hw102 => rfl
        case hy102 => (intro w hSw; (try dsimp only at hSw); go_simp; all_goals (first | done | with_reducible rfl))
        case hQ102 => exact fun _ _ _ h => h
        simp only [Act.put, List.setIfInBounds_toArray, List.set_cons_zero, List.set_cons_succ]
        refine wpAnyH_take (i := 2) (oi := ?oi103) (v := ?v103) ?hi103 (by kernel_rfl) ?hf103 ?hr103 ?hQ103 (Or.inl ⟨?hw103, ?hy103⟩) (by assumption) ?rest103
        case hi103 => simp only [List.getElem?_toArray, List.getElem?_cons_succ, List.getElem?_cons_zero]; rfl
        case hf103 => kernel_rfl
        case hr103 => kernel_rfl
        case hw103 => rfl
        case hy103 => (intro w hSw; (try dsimp only at hSw); go_simp; all_goals (first | done | with_reducible rfl))
        case hQ103 => exact fun _ _ _ h => h
        simp only [Act.put, List.setIfInBounds_toArray, List.set_cons_zero, List.set_cons_succ]
        refine wpAnyH_take (i := 3) (oi := ?oi104) (v := ?v104) ?hi104 (by kernel_rfl) ?hf104 ?hr104 ?hQ104 (Or.inl ⟨?hw104, ?hy104⟩) (by assumption) ?rest104
        case hi104 => simp only [List.getElem?_toArray, List.getElem?_cons_succ, List.getElem?_cons_zero]; rfl
        case hf104 => kernel_rfl
        case hr104 => kernel_rfl
        case hw104 => rfl
        case hy104 => (intro w hSw; (try dsimp only at hSw); go_simp; all_goals (first | done | with_reducible rfl))
        case hQ104 => exact fun _ _ _ h => h
        simp only [Act.put, List.setIfInBounds_toArray, List.set_cons_zero, List.set_cons_succ]
        refine wpAnyH_take (i := 4) (oi := ?oi105) (v := ?v105) ?hi105 (by kernel_rfl) ?hf105 ?hr105 ?hQ105 (Or.inl ⟨?hw105, ?hy105⟩) (by assumption) ?rest105
        case hi105 => simp only [List.getElem?_toArray, List.getElem?_cons_succ, List.getElem?_cons_zero]; rfl
        case hf105 => kernel_rfl
        case hr105 => kernel_rfl
        case hw105 => rfl
        case hy105 => (intro w hSw; (try dsimp only at hSw); go_simp; all_goals (first | done | with_reducible rfl))
        case hQ105 => exact fun _ _ _ h => h
        simp only [Act.put, List.setIfInBounds_toArray, List.set_cons_zero, List.set_cons_succ]
        refine wpAnyH_take (i := 5) (oi := ?oi106) (v := ?v106) ?hi106 (by kernel_rfl) ?hf106 ?hr106 ?hQ106 (Or.inl ⟨?hw106, ?hy106⟩) (by assumption) ?rest106
        case hi106 => simp only [List.getElem?_toArray, List.getElem?_cons_succ, List.getElem?_cons_zero]; rfl
        case hf106 => kernel_rfl
        case hr106 => kernel_rfl
        case hw106 => rfl
        case hy106 => (intro w hSw; (try dsimp only at hSw); go_simp; all_goals (first | done | with_reducible rfl))
        case hQ106 => exact fun _ _ _ h => h
        simp only [Act.put, List.setIfInBounds_toArray, List.set_cons_zero, List.set_cons_succ]
        refine wpAnyH_take (i := 6) (oi := ?oi107) (v := ?v107) ?hi107 (by kernel_rfl) ?hf107 ?hr107 ?hQ107 (Or.inl ⟨?hw107, ?hy107⟩) (by assumption) ?rest107
        case hi107 => simp only [List.getElem?_toArray, List.getElem?_cons_succ, List.getElem?_cons_zero]; rfl
        case hf107 => kernel_rfl
        case hr107 => kernel_rfl
        case hw107 => rfl
        case hy107 => (intro w hSw; (try dsimp only at hSw); go_simp; all_goals (first | done | with_reducible rfl))
        case hQ107 => exact fun _ _ _ h => h
        simp only [Act.put, List.setIfInBounds_toArray, List.set_cons_zero, List.set_cons_succ]
        refine wpAnyH_ready (rs := [7]) (by kernel_rfl) (by simp) ?_
        refine AllReadyH.cons (o := ?oi108) ?hi108 (fun K hK => ?step108) AllReadyH.nil
        case hi108 => simp only [List.getElem?_toArray, List.getElem?_cons_succ, List.getElem?_cons_zero]; rfl
        rw [if_pos (by rfl)]
        go_simp
        go_at_call 64
        refine (HL.out _ HW'.out.drew).mono ?_
        rintro e w9 ⟨rfl, hb9⟩
        refine hK.out _ _ ⟨(hb9.cell (p := ⟨w.heap.size, 0, none⟩) hwr).trans d0, (hb9.cell (p := ⟨w.heap.size, 1, none⟩) hwr).trans d1, (hb9.cell (p := ⟨b, _, none⟩) hbr).trans c0, (hb9.cell (p := ⟨b, _, none⟩) hbr).trans c1, (hb9.cell (p := ⟨b, _, none⟩) hbr).trans c2, (hb9.cell (p := ⟨b, _, none⟩) hbr).trans c3, (hb9.cell (p := ⟨b, _, none⟩) hbr).trans c4, (hb9.cell (p := ⟨b, _, none⟩) hbr).trans c5⟩ (fun hS9 => ?_)
        refine wpAnyH_take (i := 8) (oi := ?oi109) (v := ?v109) ?hi109 (by kernel_rfl) ?hf109 ?hr109 ?hQ109 (Or.inl ⟨?hw109, ?hy109⟩) (by assumption) ?rest109
        case hi109 => simp only [List.getElem?_toArray, List.getElem?_cons_succ, List.getElem?_cons_zero]; rfl
        case hf109 => kernel_rfl
        case hr109 => kernel_rfl
        case hw109 => rfl
        case hy109 => (intro w hSw; (try dsimp only at hSw); go_simp; all_goals (first | done | with_reducible rfl))
        case hQ109 => exact fun _ _ _ h => h
        simp only [Act.put, List.setIfInBounds_toArray, List.set_cons_zero, List.set_cons_succ]
        refine wpAnyH_take (i := 9) (oi := ?oi110) (v := ?v110) ?hi110 (by kernel_rfl) ?hf110 ?hr110 ?hQ110 (Or.inl ⟨?hw110, ?hy110⟩) (by assumption) ?rest110
        case hi110 => simp only [List.getElem?_toArray, List.getElem?_cons_succ, List.getElem?_cons_zero]; rfl
        case hf110 => kernel_rfl
        case hr110 => kernel_rfl
        case hw110 => rfl
        case hy110 => (intro w hSw; (try dsimp only at hSw); go_simp; all_goals (first | done | with_reducible rfl))
        case hQ110 => exact fun _ _ _ h => h
        simp only [Act.put, List.setIfInBounds_toArray, List.set_cons_zero, List.set_cons_succ]
        refine wpAnyH_take (i := 10) (oi := ?oi111) (v := undef) ?hi111 (by kernel_rfl) ?hf111 ?hr111 ?hQ111 (Or.inr ⟨?hw111, rfl⟩) (by assumption) ?rest111
        case hi111 => simp only [List.getElem?_toArray, List.getElem?_cons_succ, List.getElem?_cons_zero]; rfl
        case hf111 => kernel_rfl
        case hr111 => kernel_rfl
        case hw111 => rfl
        case hQ111 => exact fun _ _ _ h => h
        simp only [Act.put, List.setIfInBounds_toArray, List.set_cons_zero, List.set_cons_succ]
        refine wpAnyH_take (i := 11) (oi := ?oi112) (v := undef) ?hi112 (by kernel_rfl) ?hf112 ?hr112 ?hQ112 (Or.inr ⟨?hw112, rfl⟩) (by assumption) ?rest112
        case hi112 => simp only [List.getElem?_toArray, List.getElem?_cons_succ, List.getElem?_cons_zero]; rfl
        case hf112 => kernel_rfl
        case hr112 => kernel_rfl
        case hw112 => rfl
        case hQ112 => exact fun _ _ _ h => h
        simp only [Act.put, List.setIfInBounds_toArray, List.set_cons_zero, List.set_cons_succ]
        refine wpAnyH_take (i := 12) (oi := ?oi113) (v := undef) ?hi113 (by kernel_rfl) ?hf113 ?hr113 ?hQ113 (Or.inr ⟨?hw113, rfl⟩) (by assumption) ?rest113
        case hi113 => simp only [List.getElem?_toArray, List.getElem?_cons_succ, List.getElem?_cons_zero]; rfl
        case hf113 => kernel_rfl
        case hr113 => kernel_rfl
        case hw113 => rfl
        case hQ113 => exact fun _ _ _ h => h
        simp only [Act.put, List.setIfInBounds_toArray, List.set_cons_zero, List.set_cons_succ]
        refine wpAnyH_take (i := 13) (oi := ?oi114) (v := undef) ?hi114 (by kernel_rfl) ?hf114 ?hr114 ?hQ114 (Or.inr ⟨?hw114, rfl⟩) (by assumption) ?rest114
        case hi114 => simp only [List.getElem?_toArray, List.getElem?_cons_succ, List.getElem?_cons_zero]; rfl
        case hf114 => kernel_rfl
        case hr114 => kernel_rfl
        case hw114 => rfl
        case hQ114 => exact fun _ _ _ h => h
        simp only [Act.put, List.setIfInBounds_toArray, List.set_cons_zero, List.set_cons_succ]
        refine wpAnyH_take (i := 14) (oi := ?oi115) (v := undef) ?hi115 (by kernel_rfl) ?hf115 ?hr115 ?hQ115 (Or.inr ⟨?hw115, rfl⟩) (by assumption) ?rest115
        case hi115 => simp only [List.getElem?_toArray, List.getElem?_cons_succ, List.getElem?_cons_zero]; rfl
        case hf115 => kernel_rfl
        case hr115 => kernel_rfl
        case hw115 => rfl
        case hQ115 => exact fun _ _ _ h => h
        simp only [Act.put, List.setIfInBounds_toArray, List.set_cons_zero, List.set_cons_succ]
        refine wpAnyH_take (i := 15) (oi := ?oi116) (v := undef) ?hi116 (by kernel_rfl) ?hf116 ?hr116 ?hQ116 (Or.inr ⟨?hw116, rfl⟩) (by assumption) ?rest116
        case hi116 => simp only [List.getElem?_toArray, List.getElem?_cons_succ, List.getElem?_cons_zero]; rfl
        case hf116 => kernel_rfl
        case hr116 => kernel_rfl
        case hw116 => rfl
        case hQ116 => exact fun _ _ _ h => h
        simp only [Act.put, List.setIfInBounds_toArray, List.set_cons_zero, List.set_cons_succ]
        refine wpAnyH_take (i := 16) (oi := ?oi117) (v := undef) ?hi117 (by kernel_rfl) ?hf117 ?hr117 ?hQ117 (Or.inr ⟨?hw117, rfl⟩) (by assumption) ?rest117
        case hi117 => simp only [List.getElem?_toArray, List.getElem?_cons_succ, List.getElem?_cons_zero]; rfl
        case hf117 => kernel_rfl
        case hr117 => kernel_rfl
        case hw117 => rfl
        case hQ117 => exact fun _ _ _ h => h
        simp only [Act.put, List.setIfInBounds_toArray, List.set_cons_zero, List.set_cons_succ]
        refine wpAnyH_take (i := 17) (oi := ?oi118) (v := undef) ?hi118 (by kernel_rfl) ?hf118 ?hr118 ?hQ118 (Or.inr ⟨?hw118, rfl⟩) (by assumption) ?rest118
        case hi118 => simp only [List.getElem?_toArray, List.getElem?_cons_succ, List.getElem?_cons_zero]; rfl
        case hf118 => kernel_rfl
        case hr118 => kernel_rfl
        case hw118 => rfl
        case hQ118 => exact fun _ _ _ h => h
        simp only [Act.put, List.setIfInBounds_toArray, List.set_cons_zero, List.set_cons_succ]
        refine wpAnyH_take (i := 18) (oi := ?oi119) (v := undef) ?hi119 (by kernel_rfl) ?hf119 ?hr119 ?hQ119 (Or.inr ⟨?hw119, rfl⟩) (by assumption) ?rest119
        case hi119 => simp only [List.getElem?_toArray, List.getElem?_cons_succ, List.getElem?_cons_zero]; rfl
        case hf119 => kernel_rfl
        case hr119 => kernel_rfl
        case hw119 => rfl
        case hQ119 => exact fun _ _ _ h => h
        simp only [Act.put, List.setIfInBounds_toArray, List.set_cons_zero, List.set_cons_succ]
        refine wpAnyH_take (i := 19) (oi := ?oi120) (v := undef) ?hi120 (by kernel_rfl) ?hf120 ?hr120 ?hQ120 (Or.inr ⟨?hw120, rfl⟩) (by assumption) ?rest120
        case hi120 => simp only [List.getElem?_toArray, List.getElem?_cons_succ, List.getElem?_cons_zero]; rfl
        case hf120 => kernel_rfl
        case hr120 => kernel_rfl
        case hw120 => rfl
        case hQ120 => exact fun _ _ _ h => h
        simp only [Act.put, List.setIfInBounds_toArray, List.set_cons_zero, List.set_cons_succ]
        refine wpAnyH_take (i := 20) (oi := ?oi121) (v := undef) ?hi121 (by kernel_rfl) ?hf121 ?hr121 ?hQ121 (Or.inr ⟨?hw121, rfl⟩) (by assumption) ?rest121
        case hi121 => simp only [List.getElem?_toArray, List.getElem?_cons_succ, List.getElem?_cons_zero]; rfl
        case hf121 => kernel_rfl
        case hr121 => kernel_rfl
        case hw121 => rfl
        case hQ121 => exact fun _ _ _ h => h
        simp only [Act.put, List.setIfInBounds_toArray, List.set_cons_zero, List.set_cons_succ]
        refine wpAnyH_take (i := 21) (oi := ?oi122) (v := undef) ?hi122 (by kernel_rfl) ?hf122 ?hr122 ?hQ122 (Or.inr ⟨?hw122, rfl⟩) (by assumption) ?rest122
        case hi122 => simp only [List.getElem?_toArray, List.getElem?_cons_succ, List.getElem?_cons_zero]; rfl
        case hf122 => kernel_rfl
        case hr122 => kernel_rfl
        case hw122 => rfl
        case hQ122 => exact fun _ _ _ h => h
        simp only [Act.put, List.setIfInBounds_toArray, List.set_cons_zero, List.set_cons_succ]
        refine wpAnyH_take (i := 22) (oi := ?oi123) (v := ?v123) ?hi123 (by kernel_rfl) ?hf123 ?hr123 ?hQ123 (Or.inl ⟨?hw123, ?hy123⟩) (by assumption) ?rest123
        case hi123 => simp only [List.getElem?_toArray, List.getElem?_cons_succ, List.getElem?_cons_zero]; rfl
        case hf123 => kernel_rfl
        case hr123 => kernel_rfl
        case hw123 => rfl
        case hy123 => (intro w hSw; (try dsimp only at hSw); go_simp; all_goals (first | done | with_reducible rfl))
        case hQ123 => exact fun _ _ _ h => h
        simp only [Act.put, List.setIfInBounds_toArray, List.set_cons_zero, List.set_cons_succ]
        refine wpAnyH_done (by kernel_rfl) ?_ _
        go_wp2_with fail
        go_ret
        exact ⟨ret_bool (by unfold treeOk; rw [HO.out]; simp), HW'.out.drew.trans (hb9.mono HW'.out.drew.size)⟩
      | true =>
        rw [hl] at HL
        have HE := hid hl
        clear hl
        by_cases hz : 0 ≤ z
        · have hd : decide (0 ≤ z) = true := by simpa using hz
          have HO := hid (lgrs_dup hs ls k _ HX.out.2.1 (Classical.not_not.1 (fun h => by have := hidx.2 h; omega)))
          clear hidx
          go_wp2_with fail
          go_region_held3 (fun w' => w'.cell? ⟨w.heap.size, 0, none⟩ = some (.slice (some ⟨b, o, none⟩) n1 k1) ∧ w'.cell? ⟨w.heap.size, 1, none⟩ = some (.slice A2 n2 k2) ∧ w'.cell? ⟨b, o + k * 6, none⟩ = some (.string t) ∧ w'.cell? ⟨b, o + k * 6 + 1, none⟩ = some (.int .i64 x.l.lv) ∧ w'.cell? ⟨b, o + k * 6 + 2, none⟩ = some (.slice A3 x.hn k3) ∧ w'.cell? ⟨b, o + k * 6 + 3, none⟩ = some (.slice A4 x.fn k4) ∧ w'.cell? ⟨b, o + k * 6 + 4, none⟩ = some (.bool x.l.stop) ∧ w'.cell? ⟨b, o + k * 6 + 5, none⟩ = some (.bool x.l.off)) (first | go_keep | exact ⟨(hb9.cell (p := ⟨w.heap.size, 0, none⟩) hwr).trans d0, (hb9.cell (p := ⟨w.heap.size, 1, none⟩) hwr).trans d1, (hb9.cell (p := ⟨b, _, none⟩) hbr).trans c0, (hb9.cell (p := ⟨b, _, none⟩) hbr).trans c1, (hb9.cell (p := ⟨b, _, none⟩) hbr).trans c2, (hb9.cell (p := ⟨b, _, none⟩) hbr).trans c3, (hb9.cell (p := ⟨b, _, none⟩) hbr).trans c4, (hb9.cell (p := ⟨b, _, none⟩) hbr).trans c5⟩) (first | (go_at_call 64; refine (HL.out _ (by first | exact HW'.out | exact HW'.out.drew | exact HW'.out.drew.drew)).mono ?_; rintro e w9 ⟨rfl, hb9⟩) | (go_at_call 65; refine (LA.out _ (by first | exact HW'.out.trans (hb9.mono HW'.out.size) | exact HW'.out.drew.trans (hb9.mono HW'.out.drew.size))).mono ?_; rintro e w8 ⟨rfl, rfl⟩))
          all_goals go_wp2_with fail
          all_goals go_ret
          all_goals exact ⟨ret_bool (by unfold treeOk; rw [HO.out]; simp), by first | exact HW'.out.trans (hb9.mono HW'.out.size) | exact HW'.out.drew.trans (hb9.mono HW'.out.drew.size)⟩
        · have hd : decide (0 ≤ z) = false := by simpa using hz
          have HS := hid (hidx.1 (by omega))
          clear hidx
          go_wp2_with fail
          go_region_held3 (fun w' => w'.cell? ⟨w.heap.size, 0, none⟩ = some (.slice (some ⟨b, o, none⟩) n1 k1) ∧ w'.cell? ⟨w.heap.size, 1, none⟩ = some (.slice A2 n2 k2) ∧ w'.cell? ⟨b, o + k * 6, none⟩ = some (.string t) ∧ w'.cell? ⟨b, o + k * 6 + 1, none⟩ = some (.int .i64 x.l.lv) ∧ w'.cell? ⟨b, o + k * 6 + 2, none⟩ = some (.slice A3 x.hn k3) ∧ w'.cell? ⟨b, o + k * 6 + 3, none⟩ = some (.slice A4 x.fn k4) ∧ w'.cell? ⟨b, o + k * 6 + 4, none⟩ = some (.bool x.l.stop) ∧ w'.cell? ⟨b, o + k * 6 + 5, none⟩ = some (.bool x.l.off)) (first | go_keep | exact ⟨(hb9.cell (p := ⟨w.heap.size, 0, none⟩) hwr).trans d0, (hb9.cell (p := ⟨w.heap.size, 1, none⟩) hwr).trans d1, (hb9.cell (p := ⟨b, _, none⟩) hbr).trans c0, (hb9.cell (p := ⟨b, _, none⟩) hbr).trans c1, (hb9.cell (p := ⟨b, _, none⟩) hbr).trans c2, (hb9.cell (p := ⟨b, _, none⟩) hbr).trans c3, (hb9.cell (p := ⟨b, _, none⟩) hbr).trans c4, (hb9.cell (p := ⟨b, _, none⟩) hbr).trans c5⟩) (first | (go_at_call 64; refine (HL.out _ (by first | exact HW'.out | exact HW'.out.drew | exact HW'.out.drew.drew)).mono ?_; rintro e w9 ⟨rfl, hb9⟩) | (go_at_call 65; refine (LA.out _ (by first | exact HW'.out.trans (hb9.mono HW'.out.size) | exact HW'.out.drew.trans (hb9.mono HW'.out.drew.size))).mono ?_; rintro e w8 ⟨rfl, rfl⟩))
          all_goals go_wp2_with fail
          all_goals
            go_roundw
            case rel =>
              refine ⟨k + 1, by go_num, by omega, ⟨?_, nodup_step _ k _ HX.out.2.1 HA.out.2 HS.out⟩, by first | exact HW.out.trans (hb9.mono hszr) | exact HW.out.drew.trans (hb9.mono hszr)⟩
              intro y hy
              rcases mem_take_succ ls k x y HX.out.1 hy with rfl | hy
              · exact HE.out
              · exact HA.out.1 y hy
            case measure => simp [intOf]; omega
    · have hk' : k = n1 := by omega
      have HA' := hid (show (∀ x ∈ ls, lgrOk (hsOf hs) x.l = true) ∧ (lnames ls).Nodup by
        have h1 := HA.out
        rwa [List.take_of_length_le (by omega), List.take_of_length_le (by unfold lnames; simp; omega)] at h1)
      have HW' := hid hW
      clear hW
      have hzr : w.heap.size ≤ wr.heap.size := by omega
      cases hi : (decide ((1 : Int) ≤ (n1 : Int)) && decide ((n1 : Int) ≤ 8)) with
      | false =>
        rw [hi] at IN
        have HO := hid (lgrs_len hs ls (by rw [Bool.and_eq_false_iff, decide_eq_false_iff_not, decide_eq_false_iff_not] at hi; omega))
        clear hi
        go_wp2_with fail
        refine (IN.out wr).mono ?_
        rintro e w1 ⟨rfl, rfl⟩
        go_wp2_with fail
        go_ret
        exact ⟨ret_bool (by unfold treeOk; rw [HO.out]; simp), HW'.out⟩
      | true =>
        rw [hi] at IN
        have hi2 : 1 ≤ n1 ∧ n1 ≤ 8 := by rw [Bool.and_eq_true, decide_eq_true_eq, decide_eq_true_eq] at hi; omega
        clear hi
        obtain ⟨b, o, x0, t0, rfl, hb, hx0, ht0, hts0, _, _, g0, _⟩ := HV.out.1.at_ (k := 0) (by omega)
        have hx0n : (lnames ls)[0]? = some t0.data.toList := by unfold lnames; rw [List.getElem?_map, hx0, ht0]; rfl
        have r0 : wr.cell? ⟨b, o, none⟩ = some (.string t0) := by rw [HW'.out.cell (p := ⟨b, o, none⟩) (by show b < _; omega)]; simpa using g0
        have b0 : (0 : Int) < (n1 : Int) := by omega
        clear hx0 ht0 g0
        by_cases hr : t0.data.toList = []
        · have e2 := empty_true hr
          have HL := hid (lgrs_good hs ls (by omega) (by omega) (by rw [hx0n, hr]) HA'.out.1 HA'.out.2)
          clear hx0n hr
          go_wp2_with fail
          refine (IN.out wr).mono ?_
          rintro e w1 ⟨rfl, rfl⟩
          go_wp2_with fail
          refine (VH.out w1 HW'.out).mono ?_
          rintro e w2 ⟨rfl, hb2⟩
          have d2 : w2.cell? ⟨w.heap.size, 2, none⟩ = some (.int .i64 q) := BX.out _ (HW.out.trans (hb2.mono hszr)) 2
          have HW2 := hid (HW'.out.trans (hb2.mono HW'.out.size))
          have HT := hid (show treeOk (lsOf ls) (hsOf hs) q = (lvOk q && hndsOk (hsOf hs)) by unfold treeOk; rw [HL.out]; simp)
          clear hb2
          cases hh : hndsOk (hsOf hs) with
          | false =>
            rw [hh] at HT
            clear hh
            go_wp2_with fail
            go_ret
            exact ⟨ret_bool (by rw [HT.out]; simp), HW2.out⟩
          | true =>
            rw [hh] at HT
            clear hh
            go_wp2_with fail
            refine (LV.out w2).mono ?_
            rintro e w3 ⟨rfl, rfl⟩
            go_wp2_with fail
            go_ret
            exact ⟨ret_bool (by rw [HT.out]; simp), HW2.out⟩
        · have HO := hid (lgrs_root hs ls _ hx0n hr)
          have e2 := empty_false hr
          clear hx0n hr
          go_wp2_with fail
          refine (IN.out wr).mono ?_
          rintro e w1 ⟨rfl, rfl⟩
          go_wp2_with fail
          go_ret
          exact ⟨ret_bool (by unfold treeOk; rw [HO.out]; simp), HW'.out⟩
end Go.Proofs.YtlifaeleoiodkaaGreatDoor

/-
  PLAIN: the logger nearest to a name, the path to the root, the level that counts.
-/
namespace Go.Proofs.YtlifaeleoiodkaaGreatDoor
open Nm
set_option linter.unusedSimpArgs false
set_option linter.unusedVariables false

abbrev Name := List UInt8
/-- the best of the first k names that x is below -/
def bestN (ns : List Name) (x : Name) : Nat → Nat
  | 0 => 0
  | k + 1 => if belowL x (ns.getD k []) && decide ((ns.getD (bestN ns x k) []).length < (ns.getD k []).length) then k else bestN ns x k
def nearN (ns : List Name) (x : Name) : Nat := bestN ns x ns.length
theorem belowL_root (x : Name) : belowL x [] = true := by simp [belowL]
theorem belowL_self (x : Name) : belowL x x = true := by simp [belowL]
theorem belowL_pre {x y : Name} (h : belowL x y = true) : y <+: x := by
  simp only [belowL, Bool.or_eq_true, decide_eq_true_eq] at h
  rcases h with rfl | rfl | h
  · exact List.nil_prefix
  · exact List.prefix_refl _
  · exact (List.prefix_append y [46]).trans h
theorem best_lt (ns : List Name) (x : Name) (k : Nat) : bestN ns x k < max 1 k := by
  induction k with
  | zero => simp [bestN]
  | succ k ih => simp only [bestN]; split <;> omega
theorem best_spec {ns : List Name} (h0 : ns[0]? = some []) (x : Name) (k : Nat) (hk : k ≤ ns.length) :
    belowL x (ns.getD (bestN ns x k) []) = true ∧ ∀ j, j < k → belowL x (ns.getD j []) = true → (ns.getD j []).length ≤ (ns.getD (bestN ns x k) []).length := by
  induction k with
  | zero =>
    refine ⟨?_, fun j hj => by omega⟩
    have e : ns.getD (bestN ns x 0) [] = [] := by simp [bestN, List.getD, h0]
    rw [e]; exact belowL_root x
  | succ k ih =>
    obtain ⟨i1, i2⟩ := ih (by omega)
    simp only [bestN]
    split
    · rename_i h
      simp only [Bool.and_eq_true, decide_eq_true_eq] at h
      refine ⟨h.1, fun j hj hb => ?_⟩
      by_cases e : j = k
      · rw [e]; exact Nat.le_refl _
      · have := i2 j (by omega) hb; omega
    · rename_i h
      simp only [Bool.and_eq_true, decide_eq_true_eq, not_and, Nat.not_lt] at h
      refine ⟨i1, fun j hj hb => ?_⟩
      by_cases e : j = k
      · subst e; exact h hb
      · exact i2 j (by omega) hb
theorem near_lt {ns : List Name} (h0 : ns[0]? = some []) (x : Name) : nearN ns x < ns.length := by
  have := best_lt ns x ns.length
  have h1 : 0 < ns.length := (List.getElem?_eq_some_iff.1 h0).1
  unfold nearN; omega
theorem near_unique {ns : List Name} (h0 : ns[0]? = some []) (hn : ns.Nodup) (x : Name) (i : Nat) (hi : i < ns.length) (hb : belowL x (ns.getD i []) = true)
    (hm : ∀ j, j < ns.length → belowL x (ns.getD j []) = true → (ns.getD j []).length ≤ (ns.getD i []).length) : nearN ns x = i := by
  obtain ⟨h1, h2⟩ := best_spec h0 x ns.length (Nat.le_refl _)
  have hl := near_lt h0 x
  have e1 := hm _ hl h1
  have e2 := h2 i hi hb
  have p1 := belowL_pre h1
  have p2 := belowL_pre hb
  have e3 : ns.getD (nearN ns x) [] = ns.getD i [] := by
    have := List.prefix_of_prefix_length_le p1 p2 e1
    exact this.eq_of_length (Nat.le_antisymm e1 e2)
  have g1 : ns.getD (nearN ns x) [] = ns[nearN ns x] := by simp [List.getD, hl]
  have g2 : ns.getD i [] = ns[i] := by simp [List.getD, hi]
  rw [g1, g2] at e3
  exact (List.getElem_inj hn).1 e3
theorem near_hit {ns : List Name} (h0 : ns[0]? = some []) (hn : ns.Nodup) (x : Name) (i : Nat) (h : ns[i]? = some x) : nearN ns x = i := by
  have hi := (List.getElem?_eq_some_iff.1 h).1
  have e : ns.getD i [] = x := by simp [List.getD, h]
  refine near_unique h0 hn x i hi (by rw [e]; exact belowL_self x) (fun j hj hb => ?_)
  rw [e]; exact (belowL_pre hb).length_le
theorem above_name {x : Name} (h : nameOk x = true) : nameOk (aboveL x) = true ∧ partsL (aboveL x) = (partsL x).dropLast := by
  obtain ⟨h1, h2⟩ := words_prefix h (List.dropLast_prefix (partsL x))
  exact nameOk_join _ h1 h2
theorem above_shorter {x : Name} (h : nameOk x = true) (hx : x ≠ []) : (partsL (aboveL x)).length < (partsL x).length := by
  rw [(above_name h).2, List.length_dropLast]
  have : partsL x ≠ [] := fun e => hx ((partsL_nil_iff x).1 e)
  have := List.length_pos_iff.2 this
  omega
theorem below_above {x y : Name} (h : nameOk x = true) (hne : x ≠ y) : belowL (aboveL x) y = belowL x y := by
  rw [Bool.eq_iff_iff, belowL_iff, belowL_iff, (above_name h).2]
  constructor
  · exact fun h => h.trans (List.dropLast_prefix _)
  · intro hp
    have hlt : (partsL y).length < (partsL x).length := by
      rcases Nat.lt_or_ge (partsL y).length (partsL x).length with h1 | h1
      · exact h1
      · exact absurd (partsL_inj (hp.eq_of_length_le h1)).symm hne
    refine List.prefix_of_prefix_length_le hp (List.dropLast_prefix _) ?_
    rw [List.length_dropLast]; omega
theorem best_congr {ns : List Name} {x y : Name} (h : ∀ z ∈ ns, belowL x z = belowL y z) (k : Nat) (hk : k ≤ ns.length) : bestN ns x k = bestN ns y k := by
  induction k with
  | zero => rfl
  | succ k ih =>
    have e : ns.getD k [] ∈ ns := by
      have hk' : k < ns.length := hk
      have g : ns.getD k [] = ns[k] := by simp [List.getD, hk']
      rw [g]; exact List.getElem_mem _
    simp only [bestN]
    rw [ih (by omega), h _ e]
theorem near_miss {ns : List Name} {x : Name} (h : nameOk x = true) (hx : x ∉ ns) : nearN ns (aboveL x) = nearN ns x :=
  best_congr (fun z hz => below_above h (fun e => hx (e ▸ hz))) _ (Nat.le_refl _)

/-- the logger above logger k -/
def upN (ns : List Name) (k : Nat) : Nat := nearN ns (aboveL (ns.getD k []))
def pathF (ns : List Name) : Nat → Nat → List Nat
  | 0, k => [k]
  | f + 1, k => if ns.getD k [] = [] then [k] else k :: pathF ns f (upN ns k)
def pathN (ns : List Name) (x : Name) : List Nat := pathF ns 4 (nearN ns x)
def depthN (ns : List Name) (k : Nat) : Nat := (partsL (ns.getD k [])).length
theorem pathF_root {ns : List Name} {f k : Nat} (h : ns.getD k [] = []) : pathF ns f k = [k] := by
  cases f with
  | zero => rfl
  | succ f => rw [pathF, if_pos h]
theorem pathF_up {ns : List Name} {f k : Nat} (h : ns.getD k [] ≠ []) (hf : depthN ns k ≤ f) : ∃ g, f = g + 1 ∧ pathF ns f k = k :: pathF ns g (upN ns k) := by
  have : 0 < depthN ns k := List.length_pos_iff.2 (fun e => h ((partsL_nil_iff _).1 e))
  obtain ⟨g, rfl⟩ : ∃ g, f = g + 1 := ⟨f - 1, by omega⟩
  exact ⟨g, rfl, by rw [pathF, if_neg h]⟩
theorem depth_up {ns : List Name} (h0 : ns[0]? = some []) (hok : ∀ z ∈ ns, nameOk z = true) {k : Nat} (hk : k < ns.length) (h : ns.getD k [] ≠ []) : depthN ns (upN ns k) < depthN ns k := by
  have g : ns.getD k [] = ns[k] := by simp [List.getD, hk]
  have hn : nameOk (ns.getD k []) = true := by rw [g]; exact hok _ (List.getElem_mem _)
  have h1 := above_shorter hn h
  have h2 := (best_spec h0 (aboveL (ns.getD k [])) ns.length (Nat.le_refl _)).1
  rw [belowL_iff] at h2
  exact Nat.lt_of_le_of_lt h2.length_le h1
theorem depth_le {ns : List Name} (hok : ∀ z ∈ ns, nameOk z = true) (k : Nat) : depthN ns k ≤ 4 := by
  unfold depthN
  by_cases hk : k < ns.length
  · have g : ns.getD k [] = ns[k] := by simp [List.getD, hk]
    rw [g]
    exact ((nameOk_iff _).1 (hok _ (List.getElem_mem _))).2
  · rw [show ns.getD k [] = [] by simp [List.getD, List.getElem?_eq_none (Nat.le_of_not_lt hk)]]
    simp [partsL]
theorem pathF_len (ns : List Name) (f k : Nat) : (pathF ns f k).length ≤ f + 1 := by
  induction f generalizing k with
  | zero => simp [pathF]
  | succ f ih => simp only [pathF]; split
                 · simp
                 · simp; exact ih _
theorem pathF_lt {ns : List Name} (h0 : ns[0]? = some []) (f k : Nat) (hk : k < ns.length) : ∀ i ∈ pathF ns f k, i < ns.length := by
  induction f generalizing k with
  | zero => intro i hi; simp [pathF] at hi; omega
  | succ f ih =>
    intro i hi
    simp only [pathF] at hi
    split at hi
    · simp at hi; omega
    · rcases List.mem_cons.1 hi with rfl | hi
      · exact hk
      · exact ih _ (near_lt h0 _) i hi
/-- the level that counts, along a path -/
def levelF (ns : List Name) (lv : Nat → Int) : Nat → Nat → Int
  | 0, k => lv k
  | f + 1, k => if lv k ≠ 0 ∨ ns.getD k [] = [] then lv k else levelF ns lv f (upN ns k)
def levelN (ns : List Name) (lv : Nat → Int) (x : Name) : Int := levelF ns lv 4 (nearN ns x)
def firstLv : List Int → Int
  | [] => 0
  | a :: l => if 0 < a then a else firstLv l
theorem level_first {ns : List Name} (lv : Nat → Int) (h0 : ∀ k, 0 ≤ lv k) (f k : Nat) : firstLv ((pathF ns f k).map lv) = levelF ns lv f k := by
  have := h0 k
  induction f generalizing k with
  | zero => simp [pathF, levelF, firstLv]; omega
  | succ f ih =>
    rw [pathF, levelF]
    by_cases hr : ns.getD k [] = []
    · rw [if_pos hr, if_pos (Or.inr hr)]; simp [firstLv]; omega
    · rw [if_neg hr, List.map_cons, firstLv, ih _ (h0 _)]
      by_cases e : lv k = 0
      · rw [if_neg (by omega), if_neg (fun h => h.elim (fun h => h e) hr)]
      · rw [if_pos (by omega), if_pos (Or.inl e)]
theorem firstLv_skip {l : List Int} {k : Nat} (h : ∀ x ∈ l.take k, ¬ 0 < x) : firstLv l = firstLv (l.drop k) := by
  induction l generalizing k with
  | nil => simp
  | cons a l ih =>
    cases k with
    | zero => rfl
    | succ k =>
      have h1 : ¬ 0 < a := h a (by simp)
      simp only [firstLv, if_neg h1, List.drop_succ_cons]
      exact ih (fun x hx => h x (by simp [hx]))
/-- what a valid tree says of its loggers -/
theorem tree_names {L : List Lgr} {H : List Hnd} {q : Int} (h : treeOk L H q = true) :
    (L.map (·.nm))[0]? = some [] ∧ (L.map (·.nm)).Nodup ∧ (∀ z ∈ L.map (·.nm), nameOk z = true) ∧ L.length ≤ 8 ∧ 1 ≤ L.length ∧ (∀ l ∈ L, 0 ≤ l.lv ∧ l.lv ≤ 60) := by
  unfold treeOk lgrsOk at h
  simp only [Bool.and_eq_true, decide_eq_true_eq, List.all_eq_true] at h
  obtain ⟨_, _, h1, h2, h3, h4, h5⟩ := h
  refine ⟨h5, h2, fun z hz => ?_, h4, h3, fun l hl => ?_⟩
  · obtain ⟨l, hl, rfl⟩ := List.mem_map.1 hz
    have := h1 l hl
    unfold lgrOk at this
    simp only [Bool.and_eq_true] at this
    exact this.1
  · have := h1 l hl
    unfold lgrOk lvOk at this
    simp only [Bool.and_eq_true, decide_eq_true_eq] at this
    exact this.2.1
end Go.Proofs.YtlifaeleoiodkaaGreatDoor

/-
  PLAIN: what the looks at a tree answer.
-/
namespace Go.Proofs.YtlifaeleoiodkaaGreatDoor
open Nm
set_option linter.unusedSimpArgs false
set_option linter.unusedVariables false

def nsOf (L : List Lgr) : List Name := L.map (·.nm)
def nearestT (L : List Lgr) (H : List Hnd) (q : Int) (x : Name) : Name := if treeOk L H q && nameOk x then (nsOf L).getD (nearN (nsOf L) x) [] else []
def pathT (L : List Lgr) (H : List Hnd) (q : Int) (x : Name) : List Name := if treeOk L H q && nameOk x then (pathN (nsOf L) x).map (fun i => (nsOf L).getD i []) else []
def parentB (L : List Lgr) (H : List Hnd) (q : Int) (x : Name) : Bool := treeOk L H q && (!decide (x = []) && decide (x ∈ nsOf L))
def parentT (L : List Lgr) (H : List Hnd) (q : Int) (x : Name) : Name := if parentB L H q x then (nsOf L).getD (upN (nsOf L) (nearN (nsOf L) x)) [] else []
def childOk (ns : List Name) (x y : Name) : Bool := !decide (y = []) && decide (ns.getD (nearN ns (aboveL y)) [] = x)
def childrenT (L : List Lgr) (H : List Hnd) (q : Int) (x : Name) : List Name := if treeOk L H q then (nsOf L).filter (childOk (nsOf L) x) else []
def branchT (L : List Lgr) (H : List Hnd) (q : Int) (x : Name) : List Name := if treeOk L H q && nameOk x then (nsOf L).filter (fun y => belowL y x) else []
def lvAt (L : List Lgr) (k : Nat) : Int := (L.map (·.lv)).getD k 0
def offAt (L : List Lgr) (k : Nat) : Bool := (L.map (·.off)).getD k false
def levelT (L : List Lgr) (H : List Hnd) (q : Int) (x : Name) : Int := if treeOk L H q && nameOk x then levelN (nsOf L) (lvAt L) x else -1
def offT (L : List Lgr) (x : Name) : Bool := decide (x ∈ nsOf L) && offAt L (nearN (nsOf L) x)
def enabledT (L : List Lgr) (q : Int) (x : Name) (lv : Int) : Bool := !offT L x && (decide (q < lv) && decide (levelN (nsOf L) (lvAt L) x ≤ lv))
def isEnabledT (L : List Lgr) (H : List Hnd) (q : Int) (x : Name) (lv : Int) : Bool := (treeOk L H q && nameOk x) && ((decide (1 ≤ lv) && decide (lv ≤ 60)) && enabledT L q x lv)

theorem tree_ns {L : List Lgr} {H : List Hnd} {q : Int} (h : treeOk L H q = true) : (nsOf L)[0]? = some [] ∧ (nsOf L).Nodup ∧ (∀ z ∈ nsOf L, nameOk z = true) ∧ (nsOf L).length = L.length ∧ L.length ≤ 8 ∧ 1 ≤ L.length := by
  obtain ⟨a, b, c, d, e, _⟩ := tree_names h
  exact ⟨a, b, c, by simp [nsOf], d, e⟩
/-- those of the first k names that p takes -/
def takeF (p : Name → Bool) (ns : List Name) (k : Nat) : List Name := (ns.take k).filter p
theorem takeF_len (p : Name → Bool) (ns : List Name) (k : Nat) : (takeF p ns k).length ≤ k := by
  unfold takeF
  have h1 := List.length_filter_le p (ns.take k)
  have h2 := List.length_take_le k ns
  exact Nat.le_trans h1 h2
theorem takeF_hit {p : Name → Bool} {ns : List Name} {k : Nat} {y : Name} (h : ns[k]? = some y) (hp : p y = true) : takeF p ns (k + 1) = takeF p ns k ++ [y] := by
  unfold takeF
  rw [List.take_add_one, h, List.filter_append]
  simp [hp]
theorem takeF_miss {p : Name → Bool} {ns : List Name} {k : Nat} {y : Name} (h : ns[k]? = some y) (hp : p y = false) : takeF p ns (k + 1) = takeF p ns k := by
  unfold takeF
  rw [List.take_add_one, h, List.filter_append]
  simp [hp]
theorem takeF_all {p : Name → Bool} {ns : List Name} {k : Nat} (h : ns.length ≤ k) : takeF p ns k = ns.filter p := by
  unfold takeF; rw [List.take_of_length_le h]
theorem takeF_zero (p : Name → Bool) (ns : List Name) : takeF p ns 0 = [] := rfl
theorem pathT_len (L : List Lgr) (H : List Hnd) (q : Int) (x : Name) : (pathT L H q x).length ≤ 5 := by
  unfold pathT
  split
  · rw [List.length_map]; exact pathF_len _ _ _
  · simp
theorem childrenT_len (L : List Lgr) (H : List Hnd) (q : Int) (x : Name) : (childrenT L H q x).length ≤ 8 := by
  unfold childrenT
  split
  · rename_i h
    have h1 := List.length_filter_le (childOk (nsOf L) x) (nsOf L)
    have h2 := (tree_names h).2.2.2.1
    have h3 : (nsOf L).length = L.length := by simp [nsOf]
    rw [h3] at h1
    exact Nat.le_trans h1 h2
  · simp
theorem branchT_len (L : List Lgr) (H : List Hnd) (q : Int) (x : Name) : (branchT L H q x).length ≤ 8 := by
  unfold branchT
  split
  · rename_i h
    simp only [Bool.and_eq_true] at h
    have h1 := List.length_filter_le (fun y => belowL y x) (nsOf L)
    have h2 := (tree_names h.1).2.2.2.1
    have h3 : (nsOf L).length = L.length := by simp [nsOf]
    rw [h3] at h1
    exact Nat.le_trans h1 h2
  · simp
end Go.Proofs.YtlifaeleoiodkaaGreatDoor
