/-
  R1, G0, L0, A2, A3, O0 laid together.
-/
import Derived.Test.YtioegkcekbkblaaGreatZyBase
import Derived.Test.YtioegkcekbkblaaGreatZyTrees
import Derived.Maps.AppendAt
import Derived.Deep.RegionHeld3
/-
  RECORDS: the model (texts, records, when they are valid), and the walks of isText, validText, validRecord of both.
-/
namespace Go.Proofs.YtioegkcekbkblaaGreat
open Go.RowKit Nm
set_option linter.unusedSimpArgs false
set_option linter.unusedVariables false

def spc (c : UInt8) : Bool := decide (c = 32) || low c
def textOk (l : List UInt8) : Bool := l.all spc && decide (l.length ≤ 12)
structure Rec where
  nm : List UInt8
  lv : Int
  tx : List UInt8
  sq : Int
deriving DecidableEq
def recOk (r : Rec) : Bool := nameOk r.nm && (decide (1 ≤ r.lv) && (decide (r.lv ≤ 60) && (textOk r.tx && (decide (0 ≤ r.sq) && decide (r.sq ≤ 999)))))
def rcells (r : Rec) : List Value := [txt r.nm, .int .i64 r.lv, txt r.tx, .int .i64 r.sq]

theorem spc_iff (c : UInt8) : spc c = true ↔ c.toNat = 32 ∨ (97 ≤ c.toNat ∧ c.toNat ≤ 122) := by
  unfold spc
  rw [Bool.or_eq_true, decide_eq_true_eq, low_iff]
  constructor
  · rintro (rfl | h)
    · exact .inl rfl
    · exact .inr h
  · rintro (h | h)
    · exact .inl (UInt8.toNat_inj.1 (by simpa using h))
    · exact .inr h
theorem tx_bad (l : List UInt8) (k : Nat) (c : UInt8) (hc : l[k]? = some c) (h : spc c = false) : textOk l = false := by
  cases hw : textOk l with
  | false => rfl
  | true =>
    simp only [textOk, Bool.and_eq_true, List.all_eq_true] at hw
    rw [hw.1 _ (List.mem_of_getElem? hc)] at h; cases h
theorem tx_long (l : List UInt8) (h : 12 < l.length) : textOk l = false := by
  unfold textOk; rw [decide_eq_false (by omega), Bool.and_false]
theorem tx_end (l : List UInt8) (h : l.all spc = true) : textOk l = decide (l.length ≤ 12) := by
  unfold textOk; rw [h, Bool.true_and]
theorem take_all {α : Type} (f : α → Bool) (l : List α) (p : Nat) (c : α) (h : (l.take p).all f = true) (hc : l[p]? = some c) (hl : f c = true) : (l.take (p + 1)).all f = true := by
  rw [List.take_add_one, hc]; simp [List.all_append, h, hl]

theorem tx_go (s : ByteArray) (p : Nat) (h : p < s.size) (hl : (s.data.toList.take p).all spc = true) (h1 : ((Utf8.decode s p).1 : Int) = 32 ∨ (97 ≤ ((Utf8.decode s p).1 : Int) ∧ ((Utf8.decode s p).1 : Int) ≤ 122)) :
    (Utf8.decode s p).2 = 1 ∧ (s.data.toList.take (p + 1)).all spc = true := by
  obtain ⟨c, hc, ⟨_, hd⟩ | ⟨ha, hd⟩⟩ := dec_cases s p h
  · rw [hd] at h1 ⊢
    exact ⟨rfl, take_all _ _ p c hl hc ((spc_iff c).2 (by simp at h1; omega))⟩
  · omega
theorem tx_no (s : ByteArray) (p : Nat) (h : p < s.size) (h0 : ¬ ((Utf8.decode s p).1 : Int) = 32) (h1 : ((Utf8.decode s p).1 : Int) < 97 ∨ 122 < ((Utf8.decode s p).1 : Int)) : textOk s.data.toList = false := by
  obtain ⟨c, hc, ⟨_, hd⟩ | ⟨ha, hd⟩⟩ := dec_cases s p h
  · rw [hd] at h0 h1
    refine tx_bad _ p c hc ?_
    rw [Bool.eq_false_iff, Ne, spc_iff]; simp at h0 h1; omega
  · refine tx_bad _ p c hc ?_
    rw [Bool.eq_false_iff, Ne, spc_iff]; omega

set_option maxHeartbeats 1000000 in
set_option maxRecDepth 100000 in
theorem isText_c (s : ByteArray) (w : World) (hs : s.size ≤ maxLen) :
    Calls Tryz.prog 103 #[.string s] w (BoolPost w (textOk s.data.toList)) := by
  unfold maxLen at hs
  by_cases h12 : (12 : Int) < (s.size : Int)
  · have HE := hid (tx_long s.data.toList (by rw [← Lib.size_eq]; omega))
    go_enter Tryz.func103, Tryz.ntmps103
    go_wp2_with fail
    go_ret
    exact ⟨ret_bool HE.out.symm, Below.refl _ _⟩
  go_enter Tryz.func103, Tryz.ntmps103
  go_wp2_with fail
  go_loopw [4] (fun c wr => ∃ p : Nat, wr = w.iter s p ∧ p ≤ s.size ∧ Hid ((s.data.toList.take p).all spc = true)) (fun _ wr => s.size - wr.iterPos w.heap.size)
  case atStart => exact ⟨0, rfl, by omega, by simp [Hid]⟩
  case round =>
    obtain ⟨p, rfl, hp, HL⟩ := hrel
    by_cases hlt : p < s.size
    · have hnx : ∀ ty, (Instr.next (.pointer (some ⟨w.heap.size, 0, none⟩)) true ty).run Tryz.prog (w.iter s p) = _ := fun ty => run_next_any w s p ty hlt
      have hd := decode_le s p
      go_wp2_with fail
      all_goals first
        | (have hg := tx_go s p hlt HL.out (by first | omega | (simp_all <;> omega))
           refine ⟨⟨p + 1, by rw [hg.1], by omega, hg.2⟩, by rw [hg.1]; simp; omega⟩)
        | (go_ret
           exact ⟨ret_bool (tx_no s p hlt (by first | omega | (simp_all <;> omega)) (by first | omega | (simp_all <;> omega))).symm, below_iter (Nat.le_refl _) _ _⟩)
    · have hnx : ∀ ty, (Instr.next (.pointer (some ⟨w.heap.size, 0, none⟩)) true ty).run Tryz.prog (w.iter s p) = _ := fun ty => run_next_end w s p ty hlt
      have HE := hid (show textOk s.data.toList = true by
        rw [tx_end _ (by have := HL.out; rwa [List.take_of_length_le (by rw [← Lib.size_eq]; omega)] at this), ← Lib.size_eq]
        exact decide_eq_true (by omega))
      go_wp2_with fail
      go_ret
      exact ⟨ret_bool HE.out.symm, below_iter (Nat.le_refl _) _ _⟩

set_option maxHeartbeats 1000000 in
set_option maxRecDepth 100000 in
theorem implValidRecord_c (nm tx : ByteArray) (lv sq : Int) (w : World) (h1 : nm.size ≤ maxTxt) (h2 : tx.size ≤ maxTxt) :
    Calls Tryz.prog 50 #[.agg #[.string nm, .int .i64 lv, .string tx, .int .i64 sq]] w (BoolPost w (recOk ⟨nm.data.toList, lv, tx.data.toList, sq⟩)) := by
  unfold maxTxt at h1 h2
  have HB0 := hid (show Below w.heap.size w (w.alloc (.cells #[.string nm, .int .i64 lv, .string tx, .int .i64 sq] 28)) from (Below.refl _ _).alloc (Nat.le_refl _) _)
  have C1 := hid (fun W => implValidName_c nm W (by unfold maxLen; omega))
  have C2 := hid (fun W => isLevel_c lv W)
  have C3 := hid (fun W => isText_c tx W (by unfold maxLen; omega))
  have HE := hid (show recOk ⟨nm.data.toList, lv, tx.data.toList, sq⟩ = (nameOk nm.data.toList && (decide (1 ≤ lv) && (lvOk lv && (textOk tx.data.toList && (decide (0 ≤ sq) && decide (sq ≤ 999)))))) by
    have e : (decide (1 ≤ lv) && decide (lv ≤ 60)) = (decide (1 ≤ lv) && lvOk lv) := by
      unfold lvOk; by_cases h : 1 ≤ lv
      · rw [decide_eq_true h, decide_eq_true (show 0 ≤ lv by omega)]; rfl
      · rw [decide_eq_false h]; rfl
    unfold recOk
    rw [← Bool.and_assoc (decide (1 ≤ lv)), e, Bool.and_assoc])
  generalize recOk ⟨nm.data.toList, lv, tx.data.toList, sq⟩ = z at HE ⊢
  generalize nameOk nm.data.toList = a at C1 HE
  generalize lvOk lv = b at C2 HE
  generalize textOk tx.data.toList = c at C3 HE
  go_enter Tryz.func50, Tryz.ntmps50
  have HC := hid (Below.refl (w.alloc (.cells #[.string nm, .int .i64 lv, .string tx, .int .i64 sq] 28)).heap.size (w.alloc (.cells #[.string nm, .int .i64 lv, .string tx, .int .i64 sq] 28)))
  go_wp2_with (first | (go_at_call 101; refine (C1.out _).mono ?_; rintro e w1 ⟨rfl, hb1⟩; replace HC := hid (HC.out.trans (hb1.mono HC.out.size)); clear hb1; have d1 := box_cell HC.out 1; have d2 := box_cell HC.out 2; have d3 := box_cell HC.out 3) | (go_at_call 47; refine (C2.out _).mono ?_; rintro e w2 ⟨rfl, rfl⟩) | (go_at_call 103; refine (C3.out _).mono ?_; rintro e w3 ⟨rfl, hb1⟩; replace HC := hid (HC.out.trans (hb1.mono HC.out.size)); clear hb1; have d3 := box_cell HC.out 3))
  all_goals go_ret
  all_goals exact ⟨ret_bool (by rw [HE.out]; simp_all; try (intros; omega)), HB0.out.trans (HC.out.mono (by simp))⟩
end Go.Proofs.YtioegkcekbkblaaGreat

/-
  What the texts of gen_flat.py share.
-/
namespace Go.Proofs.YtioegkcekbkblaaGreat
open Go.RowKit Nm
set_option linter.unusedSimpArgs false
set_option linter.unusedVariables false

/-- a slice of the call's own -/
def RowPost (w : World) (T : TypeId) (d n : Nat) (xs : List Value) (e : Ending) (w' : World) : Prop :=
  ∃ v, e = .returned v ∧ w'.ownsRow w.heap.size T d v n xs ∧ Below w.heap.size w w'
section
variable {w : World} {base n c g d : Nat} {e : TypeId} {xs : List Value}
end
/-- the cells of marks: texts where 'true' -/
def mkv (s : Bool) (k : Nat) : Value := if s then txt (mt k) else .int .i64 k
def MarkedK (ks : List Bool) (d : Nat) (ys : List Value) (k m : Nat) : Prop := ∀ j, j < m → ys[j]? = some (mkv (ks.getD (j % d) false) (k + j))
theorem grown_tr {a b c : World} {r : Option Nat} (h1 : a.grownBy b r) (h2 : b.grownBy c r) : a.grownBy c r :=
  ⟨h2.os.trans h1.os, h2.tape.trans h1.tape, h2.output.trans h1.output, Nat.le_trans h1.size h2.size, fun q hq hne => (h2.block q (by have := h1.size; omega) hne).trans (h1.block q hq hne)⟩
theorem own_some {w : World} {base d c n : Nat} {T : TypeId} {A : Option Addr} {xs : List Value} (h : w.ownsRow base T d (.slice A n c) n xs) (hn : 0 < n) : ∃ g, A = some ⟨g, 0, none⟩ ∧ g < w.heap.size := by
  rcases h.2 with ⟨h1, h2⟩ | ⟨g, cap, cur, h1, hbg, hgb, _⟩
  · omega
  · obtain ⟨rfl, rfl⟩ : A = some ⟨g, 0, none⟩ ∧ c = cap := by simpa using h1
    exact ⟨g, rfl, (Array.getElem?_eq_some_iff.1 hgb).1⟩
/-- old cells and old marks read as before: two rules that the walk takes -/
theorem bcell {W w1 : World} (hb : Below W.heap.size W w1) : (∀ b o, b < W.heap.size → w1.cell? ⟨b, o, none⟩ = W.cell? ⟨b, o, none⟩) ∧ (∀ b o, b < W.heap.size → w1.frozen? ⟨b, o, none⟩ = W.frozen? ⟨b, o, none⟩) :=
  ⟨fun b o h => hb.cell (p := ⟨b, o, none⟩) h, fun b o h => hb.frozen (p := ⟨b, o, none⟩) h⟩
end Go.Proofs.YtioegkcekbkblaaGreat

/-
  What the texts of gen_law.py share.
-/
namespace Go.Proofs.YtioegkcekbkblaaGreat
open Go.RowKit Nm
set_option linter.unusedSimpArgs false
set_option linter.unusedVariables false

end Go.Proofs.YtioegkcekbkblaaGreat

/-
  WORDS: append of one text, of one int.
-/
namespace Go.Proofs.YtioegkcekbkblaaGreat
open Go.RowKit Nm
set_option linter.unusedSimpArgs false
set_option linter.unusedVariables false

def icell (i : Nat) : Value := .int .i64 (i : Int)
/-- element k of a slice of ints of the call's own -/
theorem ints_at {w : World} {B n c : Nat} {A : Option Addr} {l : List Nat} (h : Sl w B 1 n (.slice A n c) (l.map icell)) {k : Nat} (hk : k < n) :
    ∃ b o i, A = some ⟨b, o, none⟩ ∧ b < B ∧ l[k]? = some i ∧ w.cell? ⟨b, o + k, none⟩ = some (.int .i64 (i : Int)) := by
  obtain ⟨hl, A', c', he, h2, h3, h4⟩ := h
  obtain ⟨rfl, rfl⟩ : A = A' ∧ c = c' := by simpa using he
  obtain ⟨b, o, e, hb, hc⟩ := h4 (by omega)
  have hlen : l.length = n := by simpa using hl
  have hx : l[k]? = some (l[k]'(by omega)) := List.getElem?_eq_getElem (by omega)
  exact ⟨b, o, _, e, hb, hx, hc k _ (by simp only [List.getElem?_map, hx, Option.map_some]; rfl)⟩
end Go.Proofs.YtioegkcekbkblaaGreat

/-
  WORDS: append of one element, with where the new slice lies.
-/
namespace Go.Proofs.YtioegkcekbkblaaGreat
open Go.RowKit Nm
set_option linter.unusedSimpArgs false
set_option linter.unusedVariables false

/-- append of one element, which the statement first lays in a block of its own: what has turned, and where the new slice lies -/
theorem wpList_app1L {P : Program} (w : World) {ops : Array Oper} {rest : List Oper} {o : Oper} {a : Act} {Q : Exit → Act → World → Prop}
    (hg : o.guard = none) (s x : Operand) (t : TypeId) (ho : o.op = .call { callee := .builtin .append, args := #[s, x], argTypes := #[t, t] })
    (base : Nat) (e : TypeId) (i : TypeInfo) (z : Value) (size bytes : Nat) (ht : P.underlying t = some (.slice e)) (hi : P.info? e = some i) (hz : i.zero = some z)
    (hsize : i.size = size) (hby : i.bytes = bytes) (hzs : z.cells.size = size) (hsz : 0 < size)
    (v : Value) (n : Nat) (xs : List Value) (hs : a.eval s = v) (hown : w.ownsRow base e size v n xs)
    (us : List Value) (c : Nat) (te : TypeId) (hx : a.eval x = .slice (some ⟨w.heap.size, 0, none⟩) 1 c) (hl : us.length = size) (h1 : ∀ u ∈ us, u.oneCell' = true)
    (h63 : n + 1 ≤ maxLen) (hbytes : (n + 1) * bytes ≤ 140737488355328) (hbase : base ≤ w.heap.size)
    (h : ∀ v' w', w'.ownsRow base e size v' (n + 1) (xs ++ us) → w.grownBy w' v.ownBlock → (v'.ownBlock = v.ownBlock ∨ v'.ownBlock = some (w.heap.size + 1)) → wpList P ops Q rest (a.put o.dst v') w') :
    wpList P ops Q (o :: rest) a (w.alloc (.cells us.toArray te)) :=
  wpList_append_own_at _ hg s x t ho base e i z size bytes ht hi hz hsize hby hzs hsz v n xs hs (hown.alloc _) ⟨w.heap.size, 0, none⟩ 1 c us hx (by rw [hl, Nat.one_mul])
    (many_new w us te) h1 h63 hbytes (by simp; omega)
    fun v' w' h2 h3 _ h5 => h v' w' h2 (grown_tr (World.grownBy_alloc w _ _) h3) (by simpa using h5)
theorem grownBy_drew {w w' : World} {row : Option Nat} (g : w.grownBy w' row) : w.grownBy w'.drew row := ⟨g.os, g.tape, g.output, g.size, g.block⟩
/-- an append whose run is known, at the operation, in a region that has drawn its order -/
theorem wp_app {P : Program} {o : Oper} {a : Act} {w w' : World} {K : Act → World → Prop} {Q : Exit → Act → World → Prop} {v v' src : Value} {t : TypeId} {s x : Operand}
    (ho : o.op = .call { callee := .builtin .append, args := #[s, x], argTypes := #[t, t] }) (hs : a.eval s = v) (hx : a.eval x = src)
    (hrun : (Builtin.append_ #[t, t] o.type #[v, src]).run P w = .ok v' w') (h : K (a.put o.dst v') w') : o.wp P a w K Q := by
  unfold Oper.wp execOp
  simp only [ho, resolve, invoke, builtin, Sem.run_bind, Sem.run_pure, Result.andThen_ok, List.map_toArray, List.map_cons, List.map_nil, hs, hx, hrun]
  exact h
end Go.Proofs.YtioegkcekbkblaaGreat

/-
  An argument that is a slice of structs, or a struct: what it reads as, as cells. By gen_open.py.
-/
namespace Go.Proofs.YtioegkcekbkblaaGreat
open Go.RowKit Nm Go.ChangeShapes Go.WideShapes Go.Deep
set_option linter.unusedSimpArgs false
set_option linter.unusedVariables false

end Go.Proofs.YtioegkcekbkblaaGreat
