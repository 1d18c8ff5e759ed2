/- The program's sequences as values: an array of thirty-two numbers and a length, whole; phasesOf, list. Lists by their index; numbers modulo another. One number more at the end of a list of the call's own. What the program's phasesOf makes of any list. Rows of cells, known whole: opaque worlds behind an alloc, a box, a store; parts of rows; structs made of parts. -/
import Derived.Deep.WholeRow
import Derived.Laws.ResultCell
import Derived.Laws.CopyOwn
import Derived.Great.BuildSlice
import Derived.Deep.MidRow
import Derived.Great.FillDense
import Derived.Test.YtgjdaeaiheibbabDoorKit
namespace Go.Proofs.YtgjdaeaiheibbabDoor
set_option maxRecDepth 100000
section
open Go.RowKit

/-- The cells of such a value. -/
def phA (A : List Int) (n : Int) : Array Value := ((A ++ [n]).map (Value.int .i64)).toArray
def z32 : List Int := List.replicate 32 0
def padL (l : List Int) : List Int := l ++ List.replicate (32 - l.length) 0
theorem z32_length : z32.length = 32 := by simp [z32]
theorem padL_length {l : List Int} (h : l.length ≤ 32) : (padL l).length = 32 := by simp [padL]; omega
theorem padL_nil : padL [] = z32 := rfl
theorem phA_size (A : List Int) (n : Int) (h : A.length = 32) : (phA A n).size = 33 := by simp [phA, h]
theorem phA_get (A : List Int) (n : Int) (i : Nat) (h : i < A.length) : (phA A n)[i]? = some (.int .i64 (A.getD i 0)) := by
  simp [phA, List.getElem?_append, h, List.getD]
theorem phA_len (A : List Int) (n : Int) (h : A.length = 32) : (phA A n)[32]? = some (.int .i64 n) := by
  simp [phA, h]
theorem phA_set (A : List Int) (n : Int) (i : Nat) (h : i < A.length) (x : Int) : (phA A n).setIfInBounds i (.int .i64 x) = phA (A.set i x) n := by
  apply Array.ext_getElem?
  intro j
  simp only [phA]
  rw [List.setIfInBounds_toArray]
  simp only [List.getElem?_toArray]
  rw [← List.map_set, List.set_append_left _ _ h]
theorem phA_one (A : List Int) (n : Int) : (phA A n).all (·.oneCell') = true := by
  rw [Array.all_eq_true_iff_forall_mem]
  intro v hv
  simp [phA] at hv
  rcases hv with ⟨a, _, rfl⟩ | rfl <;> rfl
section
variable {P : Program}
/-- A new variable of a struct's type, its cells under a name. -/
theorem wpList_alloc_big {ops : Array Oper} {rest : List Oper} {o : Oper} {a : Act} {w : World} {Q : Exit → Act → World → Prop} (hg : o.guard = none) (t : TypeId) (ho : o.op = .alloc t)
    (Z : Array Value) (hz : ∀ w, (zeroValue t).run P w = .ok (.agg Z) w)
    (h : wpList P ops Q rest (a.put o.dst (.pointer (some ⟨w.heap.size, 0, none⟩))) (w.alloc (.cells Z t))) : wpList P ops Q (o :: rest) a w := by
  refine wpList_plain hg fun K hK => ?_
  unfold Oper.wp execOp
  simp only [ho, Instr.alloc, Sem.run_bind, hz, Result.andThen_ok]
  exact hK _ _ h
/-- A whole row is stored; the world behind it under a name. -/
theorem wpList_store_big {ops : Array Oper} {rest : List Oper} {o : Oper} {a : Act} {w : World} {Q : Exit → Act → World → Prop} (hgd : o.guard = none) (ty : TypeId) (x y : Operand) (ho : o.op = .store ty x y)
    (g : Nat) (cells : Array Value) (hx : a.eval x = .pointer (some ⟨g, 0, none⟩)) (hy : a.eval y = .agg cells)
    (t : TypeId) (old : Array Value) (hg : w.heap[g]? = some (.cells old t (0, 0))) (n : Nat) (hi : (P.info? ty).map (·.size) = some n) (hn : cells.size = n)
    (hold : old.size = n) (h1 : cells.all (·.oneCell') = true) (S : Nat) (w0 : World) (hb : Below S w0 w) (hS : S ≤ g)
    (h : ∀ w', w'.heap[g]? = some (.cells cells t (0, 0)) → (∀ k, k ≠ g → w'.heap[k]? = w.heap[k]?) → w'.heap.size = w.heap.size → Below S w0 w' → wpList P ops Q rest (a.put o.dst undef) w') : wpList P ops Q (o :: rest) a w := by
  refine wpList_store_row hgd ty x y ho g cells hx hy t old hg (by rw [hn]; exact hi) (by rw [hn]; exact hold) h1 ?_
  refine h _ (setRow_heap w g old _ t _ hg) (fun k hk => setRow_other w g k _ hk) (by simp) ?_
  exact hb.trans ⟨rfl, rfl, rfl, by simp, fun k hk => setRow_other w g k _ (by omega)⟩
/-- A whole row is loaded by a guarded operation that is wanted. -/
theorem wpList_load_row_w {ops : Array Oper} {rest : List Oper} {o : Oper} {a : Act} {w : World} {Q : Exit → Act → World → Prop} (hw : Region.wanted o (yielded ops a.tmps) = true) (ty : TypeId) (x : Operand) (ho : o.op = .load ty x)
    (g : Nat) (hx : a.eval x = .pointer (some ⟨g, 0, none⟩)) (t : TypeId) (cs : Array Value) (fr : Nat × Nat) (d : TypeDesc) (hg : w.heap[g]? = some (.cells cs t fr))
    (hu : P.underlying ty = some d) (hd : (match d with | .struct _ | .array _ _ => true | _ => false) = true) (hi : (P.info? ty).map (·.size) = some cs.size)
    (h : wpList P ops Q rest (a.put o.dst (.agg cs)) w) : wpList P ops Q (o :: rest) a w :=
  wpList_step fun _ hK => by rw [if_pos hw]; exact wp_load_row ty x ho g hx t cs fr d hg hu hd hi (hK _ _ h)
end

/-! ### list: the numbers as far as the length goes -/
/-! ### phasesOf -/
theorem pad_splice (l : List Int) (n : Int) (h : l.length ≤ 32) : (splice (phA z32 n).toList 0 (l.map (Value.int .i64))).toArray = phA (padL l) n := by
  have e : (z32 ++ [n]).drop l.length = List.replicate (32 - l.length) 0 ++ [n] := by
    rw [List.drop_append_of_le_length (by rw [z32_length]; exact h)]
    unfold z32
    rw [List.drop_replicate]
  unfold splice phA padL
  rw [List.take_zero, List.nil_append, Nat.zero_add, List.length_map, ← List.map_drop, e, ← List.map_append, List.append_assoc]
/-- The cells of a block, said of a world that keeps it. -/
theorem IS.cells {w : World} {v : Value} {l : List Int} (h : IS w v l) : ∃ a cap, v = .slice a l.length cap ∧ (0 < l.length → ∃ ad, a = some ad ∧ ∀ j u, (l.map (Value.int .i64))[j]? = some u → w.cell? (ad.add j) = some u) := by
  rcases h with ⟨rfl, a, cap, rfl⟩ | ⟨_, b, off, cap, rfl, _, hc⟩
  · exact ⟨a, cap, rfl, fun h => absurd h (Nat.lt_irrefl _)⟩
  · refine ⟨_, cap, rfl, fun _ => ⟨_, rfl, fun j u hj => ?_⟩⟩
    have hjl : j < l.length := by have := (List.getElem?_eq_some_iff.1 hj).1; simpa using this
    rw [Addr.add_lit, hc j hjl, ← hj]
    simp [List.getD, hjl]

end
section
open Go.RowKit

def gen (n : Nat) (g : Nat → Int) : List Int := (List.range n).map g
theorem gen_length (n : Nat) (g : Nat → Int) : (gen n g).length = n := by simp [gen]
theorem gen_zero (g : Nat → Int) : gen 0 g = [] := rfl
theorem gen_succ (n : Nat) (g : Nat → Int) : gen (n + 1) g = gen n g ++ [g n] := by simp [gen, List.range_succ]
theorem gen_getElem? (n : Nat) (g : Nat → Int) (i : Nat) (h : i < n) : (gen n g)[i]? = some (g i) := by simp [gen, h]
theorem gen_getD (n : Nat) (g : Nat → Int) (i : Nat) (h : i < n) : (gen n g).getD i 0 = g i := by simp [List.getD, gen_getElem? n g i h]
theorem gen_ext {n : Nat} {g h : Nat → Int} (e : ∀ i, i < n → g i = h i) : gen n g = gen n h := by
  unfold gen
  apply List.map_congr_left
  intro i hi
  exact e i (List.mem_range.1 hi)
theorem gen_self (l : List Int) : gen l.length (fun i => l.getD i 0) = l := by
  apply List.ext_getElem?
  intro i
  by_cases h : i < l.length
  · rw [gen_getElem? _ _ _ h]; simp [List.getD, h]
  · rw [List.getElem?_eq_none (by rw [gen_length]; omega), List.getElem?_eq_none (by omega)]
theorem gen_set (n : Nat) (g : Nat → Int) (j : Nat) (x : Int) : (gen n g).set j x = gen n (fun i => if i = j then x else g i) := by
  apply List.ext_getElem?
  intro i
  by_cases h : i < n
  · rw [gen_getElem? _ _ _ h, List.getElem?_set]
    by_cases e : j = i
    · subst e; simp [gen_length, h]
    · rw [if_neg e, gen_getElem? _ _ _ h, if_neg (fun e' => e e'.symm)]
  · rw [List.getElem?_eq_none (by rw [List.length_set, gen_length]; omega), List.getElem?_eq_none (by rw [gen_length]; omega)]
theorem pad_set (l : List Int) (j : Nat) (x : Int) (h : j < l.length) : (padL l).set j x = padL (l.set j x) := by
  unfold padL
  rw [List.set_append_left _ _ h, List.length_set]
theorem pad_getD (l : List Int) (j : Nat) (h : j < l.length) : (padL l).getD j 0 = l.getD j 0 := by simp [padL, List.getD, List.getElem?_append, h]
theorem pad_snoc (g : Nat → Int) (j : Nat) (h : j < 32) : (padL (gen j g)).set j (g j) = padL (gen (j + 1) g) := by
  unfold padL
  rw [List.set_append_right _ _ (by simp [gen_length]), gen_length, gen_length, Nat.sub_self, gen_succ]
  rw [show 32 - j = (32 - (j + 1)) + 1 by omega, List.replicate_succ, List.set_cons_zero, List.append_assoc]
  rfl
theorem pad_at (g : Nat → Int) (j : Nat) (h : j < 32) : (padL (gen j g)).getD j 0 = 0 := by
  unfold padL List.getD
  rw [List.getElem?_append_right (by simp [gen_length]), gen_length, Nat.sub_self, List.getElem?_replicate, if_pos (by omega)]
  rfl
theorem pad_take (l : List Int) : (padL l).take l.length = l := by simp [padL]

/-! ### modulo of the program, phMod of the model -/
theorem tmod_facts (n m : Int) (hm : 1 ≤ m) (hn : n < 0) : n.tmod m ≤ 0 ∧ -m < n.tmod m ∧ (n.tmod m < 0 → n.tmod m + m = n % m) ∧ (¬ n.tmod m < 0 → n.tmod m = n % m) := by
  have h := Int.tmod_eq_emod (a := n) (b := m)
  have h1 := Int.emod_nonneg n (show m ≠ 0 by omega)
  have h2 := Int.emod_lt_of_pos n (show 0 < m by omega)
  by_cases hd : m ∣ n
  · have h0 : n % m = 0 := Int.emod_eq_zero_of_dvd hd
    rw [if_pos (Or.inr hd)] at h
    omega
  · rw [if_neg (by omega)] at h
    have h3 : n % m ≠ 0 := fun e => hd (Int.dvd_of_emod_eq_zero e)
    have h4 : (m.natAbs : Int) = m := by omega
    omega
theorem tmod_emod' (a n : Int) (hn : 0 < n) : a.tmod n % n = a % n := by
  have h := Int.tmod_eq_emod (a := a) (b := n)
  have h4 : (n.natAbs : Int) = n := by omega
  rw [h]
  split
  · simp
  · rw [h4, Int.sub_emod_right, Int.emod_emod]
theorem emod_twice (k : Int) : k.tmod 4 % 4 = k % 4 := by
  have h := Int.tmod_eq_emod (a := k) (b := 4)
  split at h <;> omega
set_option maxHeartbeats 400000 in
theorem phMod_any (k : Int) (h1 : -1000000000 ≤ k) (h2 : k ≤ 1000000000) (w : World) : Calls Tryd.prog 43 #[.int .i64 k] w (Pure w (.int .i64 (k % 4))) := by
  by_cases hk : 0 ≤ k
  · go_enter Tryd.func43, Tryd.ntmps43
    go_wp2
    go_returns
    exact ⟨ret_int (by omega), rfl⟩
  · have hb1 : -4 < k.tmod 4 := by have := tmod_facts k 4 (by omega) (by omega); omega
    have hb2 : k.tmod 4 ≤ 0 := by have := tmod_facts k 4 (by omega) (by omega); omega
    go_enter Tryd.func43, Tryd.ntmps43
    go_wp2
    go_returns
    exact ⟨ret_int (emod_twice k), rfl⟩
end
section
open Go.RowKit

theorem Own.alloc {w : World} {B : Nat} {v : Value} {l : List Int} (h : Own w B v l) (o : Obj) : Own (w.alloc o) B v l := World.ownsRow.alloc h o
theorem wpList_push {ops : Array Oper} {rest : List Oper} {o : Oper} {a : Act} {w : World} {Q : Exit → Act → World → Prop} (hg : o.guard = none) (s x : Operand)
    (ho : o.op = .call { callee := .builtin .append, args := #[s, x], argTypes := #[60, 60] }) (B : Nat) (v : Value) (l : List Int) (hs : a.eval s = v) (hown : Own w B v l)
    (g c : Nat) (y : Int) (hx : a.eval x = .slice (some ⟨g, 0, none⟩) 1 c) (hc : w.cell? ⟨g, 0, none⟩ = some (.int .i64 y)) (hlen : l.length ≤ 1048576)
    (S : Nat) (w0 : World) (hb : Below S w0 w) (hS : S ≤ B) (hB : B ≤ w.heap.size) (hSw : S ≤ w.heap.size)
    (hK : ∀ v' w', Own w' B v' (l ++ [y]) → Below S w0 w' → wpList Tryd.prog ops Q rest (a.put o.dst v') w') : wpList Tryd.prog ops Q (o :: rest) a w := by
  obtain ⟨i0, hi, hz0, hz1, hz2⟩ := info_parts infoInt
  refine wpList_append_own w hg s x 60 ho B 3 i0 (.int .i64 0) 1 8 Tryd.underlying60 hi hz0 hz1 hz2 rfl (by decide) v l.length (l.map (Value.int .i64)) hs hown ⟨g, 0, none⟩ 1 c [.int .i64 y] hx rfl ?_ ?_ ?_ ?_ hB ?_
  · intro j u hj
    match j, hj with
    | 0, hj => simp at hj; subst hj; simpa [Addr.add] using hc
  · intro u hu; simp at hu; subst hu; rfl
  · unfold maxLen; omega
  · omega
  · intro v' w' hown' hgr _
    refine hK v' w' ?_ (hb.grown hgr hSw (fun k hk => Nat.le_trans hS (hown.lt k hk).1))
    unfold Own
    rw [List.length_append, List.map_append]
    exact hown'
theorem run_append_none {P : Program} (w : World) (base : Nat) (t ty e : TypeId) (i : TypeInfo) (size : Nat) (ht : P.underlying t = some (.slice e)) (hi : P.info? e = some i)
    (v : Value) (n : Nat) (xs : List Value) (hown : w.ownsRow base e size v n xs) (c : Nat) : (Builtin.append_ #[t, t] ty #[v, .slice none 0 c]).run P w = .ok v w := by
  rcases hown.2 with ⟨rfl, _⟩ | ⟨g, cap, cur, rfl, _, hg, hnc, _⟩
  · simp [Builtin.append_, run_underlying ht, sizeOf, typeInfo, hi, Builtin.lenOf, Builtin.firstCells]
  · simp [Builtin.append_, run_underlying ht, sizeOf, typeInfo, hi, Builtin.lenOf, Builtin.firstCells, hnc, storeCells]
/-- A whole list more, whatever slice it lies in. -/
theorem wpList_pushAll {ops : Array Oper} {rest : List Oper} {o : Oper} {a : Act} {w : World} {Q : Exit → Act → World → Prop} (hg : o.guard = none) (s x : Operand)
    (ho : o.op = .call { callee := .builtin .append, args := #[s, x], argTypes := #[60, 60] }) (B : Nat) (v : Value) (l : List Int) (hs : a.eval s = v) (hown : Own w B v l)
    (u : Value) (m : List Int) (hx : a.eval x = u) (hu : IS w u m) (hlen : l.length ≤ 1048576) (hlem : m.length ≤ 1048576)
    (S : Nat) (w0 : World) (hb : Below S w0 w) (hS : S ≤ B) (hB : B ≤ w.heap.size) (hSw : S ≤ w.heap.size)
    (hK : ∀ v' w', Own w' B v' (l ++ m) → Below S w0 w' → wpList Tryd.prog ops Q rest (a.put o.dst v') w') : wpList Tryd.prog ops Q (o :: rest) a w := by
  obtain ⟨i0, hi, hz0, hz1, hz2⟩ := info_parts infoInt
  have key : ∀ v' w', w'.ownsRow B 3 1 v' (l.length + m.length) (l.map (Value.int .i64) ++ m.map (Value.int .i64)) → w.grownBy w' v.ownBlock → wpList Tryd.prog ops Q rest (a.put o.dst v') w' := by
    intro v' w' hown' hgr
    refine hK v' w' ?_ (hb.grown hgr hSw (fun k hk => Nat.le_trans hS (hown.lt k hk).1))
    unfold Own
    rw [List.length_append, List.map_append]
    exact hown'
  rcases hu with ⟨rfl, ad, cap, rfl⟩ | ⟨hn, b, off, cap, rfl, _, hc⟩
  · cases ad with
    | none =>
      refine wpList_plain hg fun K hK' => ?_
      have hrun := run_append_none (P := Tryd.prog) w B 60 o.type 3 i0 1 Tryd.underlying60 hi v l.length (l.map (Value.int .i64)) hown cap
      unfold Oper.wp
      simp [execOp, ho, resolve, invoke, builtin, hs, hx, hrun, Result.andThen]
      exact hK' _ _ (key v w (by have h := hown; unfold Own at h; simpa using h) (World.grownBy.refl _ _))
    | some ad =>
      refine wpList_append_own w hg s x 60 ho B 3 i0 (.int .i64 0) 1 8 Tryd.underlying60 hi hz0 hz1 hz2 rfl (by decide) v l.length (l.map (Value.int .i64)) hs hown ad 0 cap [] hx rfl (by simp) (by simp) (by unfold maxLen; omega) (by omega) hB (fun v' w' h1 h2 _ => key v' w' (by simpa using h1) h2)
  · refine wpList_append_own w hg s x 60 ho B 3 i0 (.int .i64 0) 1 8 Tryd.underlying60 hi hz0 hz1 hz2 rfl (by decide) v l.length (l.map (Value.int .i64)) hs hown ⟨b, off, none⟩ m.length cap (m.map (Value.int .i64)) hx (by simp) ?_ ?_ (by unfold maxLen; omega) (by omega) hB (fun v' w' h1 h2 _ => key v' w' h1 h2)
    · intro j u hj
      have hjl : j < m.length := by have := (List.getElem?_eq_some_iff.1 hj).1; simpa using this
      rw [Addr.add_lit, hc j hjl, ← hj]
      simp [List.getD, hjl]
    · intro u hu
      simp only [List.mem_map] at hu
      obtain ⟨y, _, rfl⟩ := hu
      rfl
end
section
open Go.RowKit

/-- What phasesOf makes of a list. -/
def sqz (l : List Int) : List Int := if isSeq l then l else []
def phC (l : List Int) : Array Value := phA (padL (sqz l)) (sqz l).length
theorem sqz_len (l : List Int) : (sqz l).length ≤ 32 := by
  unfold sqz; split
  · exact isSeq_len ‹_›
  · simp
theorem phC_size (l : List Int) : (phC l).size = 33 := phA_size _ _ (padL_length (sqz_len l))
theorem phC_one (l : List Int) : (phC l).all (·.oneCell') = true := phA_one _ _
theorem phC_len (l : List Int) : (phC l)[32]? = some (.int .i64 (sqz l).length) := phA_len _ _ (padL_length (sqz_len l))
theorem phC_seq {l : List Int} (h : isSeq l = true) : phC l = phA (padL l) l.length := by unfold phC sqz; rw [h]; rfl
end
section
open Go.RowKit

/-- D lies in C from o on. -/
def Part (C : Array Value) (o : Nat) (D : Array Value) : Prop := ∀ (j : Nat) v, D.toList[j]? = some v → C[o + j]? = some v
theorem Part.self (C : Array Value) : Part C 0 C := fun j v h => by rw [Nat.zero_add]; simpa using h
theorem Part.left {A B D : Array Value} {o : Nat} (h : Part A o D) : Part (A ++ B) o D := fun j v hv => by
  have := h j v hv
  have hl := (Array.getElem?_eq_some_iff.1 this).1
  rw [Array.getElem?_append_left hl]; exact this
theorem Part.right {A B D : Array Value} {o n m : Nat} (h : Part B o D) (hA : A.size = n) (hm : m = n + o) : Part (A ++ B) m D := fun j v hv => by
  subst hm hA
  rw [Array.getElem?_append_right (by omega), show A.size + o + j - A.size = o + j by omega]
  exact h j v hv
theorem Part.cell {C D : Array Value} {o : Nat} (h : Part C o D) {i : Nat} {v : Value} (hv : D[i]? = some v) : C[o + i]? = some v := h i v (by simpa using hv)
theorem Part.trans {C D E : Array Value} {o p m : Nat} (h : Part C o D) (h' : Part D p E) (hm : m = o + p) : Part C m E := fun j v hv => by
  subst hm
  rw [Nat.add_assoc]
  exact h.cell (h' j v hv)
theorem row_lt {w : World} {g : Nat} {x : Obj} (h : w.heap[g]? = some x) : g < w.heap.size := (Array.getElem?_eq_some_iff.1 h).1
/-- A block that was there is there behind a step that keeps what was there. -/
theorem rowB {w w' : World} {g : Nat} {x : Obj} (h : w.heap[g]? = some x) (hb : Below w.heap.size w w') : w'.heap[g]? = some x := (hb.block g (row_lt h)).trans h
theorem rowC {w : World} {g : Nat} {C : Array Value} {t : TypeId} {fr : Nat × Nat} (h : w.heap[g]? = some (.cells C t fr)) {i : Nat} {v : Value} (hv : C[i]? = some v) : w.cell? ⟨g, i, none⟩ = some v := by
  rw [cell_of_row w _ _ _ _ _ h]; exact hv
theorem rowFree {w : World} {g i : Nat} {C : Array Value} {t : TypeId} (h : w.heap[g]? = some (.cells C t (0, 0))) : w.frozen? ⟨g, i, none⟩ = false := by
  simp [World.frozen?, h]
/-- w' is w but for block g. -/
structure SetAt (w w' : World) (g : Nat) : Prop where
  size : w'.heap.size = w.heap.size
  block : ∀ k, k ≠ g → w'.heap[k]? = w.heap[k]?
theorem SetAt.row {w w' : World} {g k : Nat} {x : Obj} (h : SetAt w w' g) (hk : w.heap[k]? = some x) (hne : k ≠ g) : w'.heap[k]? = some x := (h.block k hne).trans hk

theorem grownB {w0 w w' : World} {row : Option Nat} (h : w0.grownBy w row) (hb : Below w.heap.size w w') : w0.grownBy w' row :=
  ⟨hb.os.trans h.os, hb.tape.trans h.tape, hb.output.trans h.output, Nat.le_trans h.size hb.size, fun k hk hne => (hb.block k (Nat.lt_of_lt_of_le hk h.size)).trans (h.block k hk hne)⟩
theorem grownS {w0 w w' w1 : World} {g S : Nat} (h : w0.grownBy w (some g)) (hs : SetAt w w' g) (hb : Below S w1 w') (h1 : Below S w1 w) : w0.grownBy w' (some g) :=
  ⟨(hb.os.trans h1.os.symm).trans h.os, (hb.tape.trans h1.tape.symm).trans h.tape, (hb.output.trans h1.output.symm).trans h.output, Nat.le_trans h.size (Nat.le_of_eq hs.size.symm), fun k hk hne => (hs.block k (fun e => hne (by rw [e]))).trans (h.block k hk hne)⟩
theorem grownDrew {w0 w : World} {row : Option Nat} (h : w0.grownBy w row) : w0.grownBy w.drew row := ⟨h.os, h.tape, h.output, h.size, h.block⟩
theorem rowG {w w' : World} {g : Nat} {x : Obj} {row : Option Nat} (h : w.heap[g]? = some x) (hg : w.grownBy w' row) (hne : some g ≠ row) : w'.heap[g]? = some x := (hg.block g (row_lt h) hne).trans h

section
variable {P : Program}
theorem run_part (w : World) (g o : Nat) (ty : TypeId) (C D : Array Value) (t : TypeId) (fr : Nat × Nat) (d : TypeDesc) (hg : w.heap[g]? = some (.cells C t fr)) (hp : Part C o D)
    (hu : P.underlying ty = some d) (hd : d.isRow = true) (hi : (P.info? ty).map (·.size) = some D.size) :
    (Instr.loadAt ty (.pointer (some ⟨g, o, none⟩))).run P w = .ok (.agg D) w := by
  have := run_loadAt_mid (P := P) w g o ty D.toList d (fun j v hv => rowC hg (hp j v hv)) hu hd (by rw [hi, Array.length_toList])
  rwa [Array.toArray_toList] at this
/-- The operation that is next, by its make: so that an arm that does not fit fails at once. -/
theorem at_op {d : Option Tmp} (op : Op) {ty : TypeId} {pos : String} {after : Array Edge} {guard : Option (Nat × Bool)} {ops : Array Oper} {rest : List Oper} {a : Act} {w : World} {Q : Exit → Act → World → Prop}
    (h : wpList P ops Q (⟨d, op, ty, pos, after, guard⟩ :: rest) a w) : wpList P ops Q (⟨d, op, ty, pos, after, guard⟩ :: rest) a w := h
/-- A part of a row is loaded. -/
theorem wpList_load_part {ops : Array Oper} {rest : List Oper} {op : Oper} {a : Act} {w : World} {Q : Exit → Act → World → Prop} (hgd : op.guard = none) (ty : TypeId) (x : Operand) (ho : op.op = .load ty x)
    (g o : Nat) (hx : a.eval x = .pointer (some ⟨g, o, none⟩)) (C D : Array Value) (t : TypeId) (fr : Nat × Nat) (d : TypeDesc) (hg : w.heap[g]? = some (.cells C t fr)) (hp : Part C o D)
    (hu : P.underlying ty = some d) (hd : d.isRow = true) (hi : (P.info? ty).map (·.size) = some D.size)
    (h : wpList P ops Q rest (a.put op.dst (.agg D)) w) : wpList P ops Q (op :: rest) a w := by
  have := wpList_load_mid (P := P) (ops := ops) (rest := rest) (op := op) (a := a) (w := w) (Q := Q) hgd ty x ho g o hx D.toList d (fun j v hv => rowC hg (hp j v hv)) hu hd (by rw [hi, Array.length_toList])
  rw [Array.toArray_toList] at this
  exact this h
/-- The same of a guarded operation that is wanted. -/
theorem wpList_load_part_w {ops : Array Oper} {rest : List Oper} {op : Oper} {a : Act} {w : World} {Q : Exit → Act → World → Prop} (hw : Region.wanted op (yielded ops a.tmps) = true) (ty : TypeId) (x : Operand) (ho : op.op = .load ty x)
    (g o : Nat) (hx : a.eval x = .pointer (some ⟨g, o, none⟩)) (C D : Array Value) (t : TypeId) (fr : Nat × Nat) (d : TypeDesc) (hg : w.heap[g]? = some (.cells C t fr)) (hp : Part C o D)
    (hu : P.underlying ty = some d) (hd : d.isRow = true) (hi : (P.info? ty).map (·.size) = some D.size)
    (h : wpList P ops Q rest (a.put op.dst (.agg D)) w) : wpList P ops Q (op :: rest) a w :=
  wpList_step fun K hK => by
    rw [if_pos hw]
    have := wp_load_mid (P := P) (op := op) (a := a) (w := w) (K := K) (Q := Q) ty x ho g o hx D.toList d (fun j v hv => rowC hg (hp j v hv)) hu hd (by rw [hi, Array.length_toList])
    rw [Array.toArray_toList] at this
    exact this (hK _ _ h)
theorem yieldsPart {ops : Array Oper} {S : World → Prop} {op : Oper} {a : Act} (hw : Region.wanted op (yielded ops a.tmps) = true) (ty : TypeId) (x : Operand) (ho : op.op = .load ty x)
    (g o : Nat) (hx : a.eval x = .pointer (some ⟨g, o, none⟩)) (C D : Array Value) (t : TypeId) (fr : Nat × Nat) (d : TypeDesc) (hS : ∀ w, S w → w.heap[g]? = some (.cells C t fr)) (hp : Part C o D)
    (hu : P.underlying ty = some d) (hd : d.isRow = true) (hi : (P.info? ty).map (·.size) = some D.size) : YieldsIf P ops S op (.agg D) a :=
  .inl ⟨hw, fun w hw' => by
    unfold execOp
    simp only [ho, hx, Sem.run_bind, run_part w g o ty C D t fr d (hS w hw') hp hu hd hi, Result.andThen_ok]
    rfl⟩
/-- A new variable of a struct's type: the world behind it under a name. -/
theorem wpList_alloc_row {ops : Array Oper} {rest : List Oper} {o : Oper} {a : Act} {w : World} {Q : Exit → Act → World → Prop} (hg : o.guard = none) (t : TypeId) (ho : o.op = .alloc t)
    (Z : Array Value) (hz : ∀ w, (zeroValue t).run P w = .ok (.agg Z) w)
    (h : ∀ w', w'.heap[w.heap.size]? = some (.cells Z t (0, 0)) → Below w.heap.size w w' → w'.heap.size = w.heap.size + 1 → wpList P ops Q rest (a.put o.dst (.pointer (some ⟨w.heap.size, 0, none⟩))) w') : wpList P ops Q (o :: rest) a w :=
  wpList_alloc_big hg t ho Z hz (h _ (heap_alloc_new w _) (belowa (Below.refl _ _) _) (by simp))
theorem wpList_box_row {ops : Array Oper} {rest : List Oper} {o : Oper} {a : Act} {w : World} {Q : Exit → Act → World → Prop} (hg : o.guard = none) (t : TypeId) (x : Operand) (ho : o.op = .box t x)
    (C : Array Value) (hx : a.eval x = .agg C)
    (h : ∀ w', w'.heap[w.heap.size]? = some (.cells C t (0, 0)) → Below w.heap.size w w' → w'.heap.size = w.heap.size + 1 → wpList P ops Q rest (a.put o.dst (.pointer (some ⟨w.heap.size, 0, none⟩))) w') : wpList P ops Q (o :: rest) a w := by
  refine wpList_plain hg fun K hK => ?_
  unfold Oper.wp execOp
  simp only [ho, hx, Instr.box, newVar, Sem.run_bind, Sem.run_pure, Value.cells, Oper.upon]
  exact hK _ _ (h _ (heap_alloc_new w _) (belowa (Below.refl _ _) _) (by simp))
/-- A whole row is stored. -/
theorem wpList_put_row {ops : Array Oper} {rest : List Oper} {o : Oper} {a : Act} {w : World} {Q : Exit → Act → World → Prop} (hgd : o.guard = none) (ty : TypeId) (x y : Operand) (ho : o.op = .store ty x y)
    (g : Nat) (cells : Array Value) (hx : a.eval x = .pointer (some ⟨g, 0, none⟩)) (hy : a.eval y = .agg cells)
    (t : TypeId) (old : Array Value) (hg : w.heap[g]? = some (.cells old t (0, 0))) (n : Nat) (hi : (P.info? ty).map (·.size) = some n) (hn : cells.size = n)
    (hold : old.size = n) (h1 : cells.all (·.oneCell') = true) (S : Nat) (w0 : World) (hb : Below S w0 w) (hS : S ≤ g)
    (h : ∀ w', w'.heap[g]? = some (.cells cells t (0, 0)) → SetAt w w' g → Below S w0 w' → wpList P ops Q rest (a.put o.dst undef) w') : wpList P ops Q (o :: rest) a w :=
  wpList_store_big hgd ty x y ho g cells hx hy t old hg n hi hn hold h1 S w0 hb hS fun w' h1 h2 h3 h4 => h w' h1 ⟨h3, h2⟩ h4
theorem wp_put_row {o : Oper} {a : Act} {w : World} {K : Act → World → Prop} {Q : Exit → Act → World → Prop} (ty : TypeId) (x y : Operand) (ho : o.op = .store ty x y)
    (g : Nat) (cells : Array Value) (hx : a.eval x = .pointer (some ⟨g, 0, none⟩)) (hy : a.eval y = .agg cells)
    (t : TypeId) (old : Array Value) (hg : w.heap[g]? = some (.cells old t (0, 0))) (n : Nat) (hi : (P.info? ty).map (·.size) = some n) (hn : cells.size = n)
    (hold : old.size = n) (h1 : cells.all (·.oneCell') = true) (S : Nat) (w0 : World) (hb : Below S w0 w) (hS : S ≤ g)
    (h : ∀ w', w'.heap[g]? = some (.cells cells t (0, 0)) → SetAt w w' g → Below S w0 w' → K (a.put o.dst undef) w') : o.wp P a w K Q := by
  refine wp_store_row ty x y ho g cells hx hy t old hg (by rw [hn]; exact hi) (by rw [hn]; exact hold) h1 ?_
  refine h _ (setRow_heap w g old _ t _ hg) ⟨by simp, fun k hk => setRow_other w g k _ hk⟩ ?_
  exact hb.trans ⟨rfl, rfl, rfl, by simp, fun k hk => setRow_other w g k _ (by omega)⟩
theorem yieldsBuild {ops : Array Oper} {S : World → Prop} {op : Oper} {a : Act} (hw : Region.wanted op (yielded ops a.tmps) = true) (t : TypeId) (pl : List (Nat × Operand)) (ho : op.op = .build t pl.toArray)
    (C : Array Value) (hC : P.built t (pl.map fun x => (x.1, a.eval x.2)) = some C) : YieldsIf P ops S op (.agg C) a :=
  .inl ⟨hw, fun w _ => by
    have e : (pl.toArray.map fun (i, x) => (i, a.eval x)).toList = pl.map fun x => (x.1, a.eval x.2) := by simp
    unfold execOp
    simp only [ho, Sem.run_bind, run_build w t _ C (by rw [e]; exact hC), Result.andThen_ok]
    rfl⟩
/-- A struct is made of its parts. -/
theorem wpList_build_row {ops : Array Oper} {rest : List Oper} {o : Oper} {a : Act} {w : World} {Q : Exit → Act → World → Prop} (hg : o.guard = none) (t : TypeId) (pl : List (Nat × Operand)) (ho : o.op = .build t pl.toArray)
    (C : Array Value) (hC : P.built t (pl.map fun x => (x.1, a.eval x.2)) = some C)
    (h : wpList P ops Q rest (a.put o.dst (.agg C)) w) : wpList P ops Q (o :: rest) a w := by
  have e : (pl.toArray.map fun (i, x) => (i, a.eval x)).toList = pl.map fun x => (x.1, a.eval x.2) := by simp
  refine wpList_build hg t pl.toArray ho ?_ ?_
  · rw [e, hC]; rfl
  · rw [e, hC]; exact h
end

theorem put_get (off : Nat) (D cs : Array Value) : (D.zipIdx.foldl (fun cs (x : Value × Nat) => cs.setIfInBounds (off + x.2) x.1) cs).size = cs.size ∧
    ∀ k, (D.zipIdx.foldl (fun cs (x : Value × Nat) => cs.setIfInBounds (off + x.2) x.1) cs)[k]? = if off ≤ k ∧ k < off + D.size ∧ k < cs.size then D[k - off]? else cs[k]? := by
  have h := Great.foldl_set off D.toList 0 cs
  have e : D.zipIdx.foldl (fun cs (x : Value × Nat) => cs.setIfInBounds (off + x.2) x.1) cs = (D.toList.zipIdx 0).foldl (fun cs (x : Value × Nat) => cs.setIfInBounds (off + x.2) x.1) cs := by
    rw [← Array.foldl_toList, Array.toList_zipIdx]
  rw [e]
  simpa using h
/-- A struct of two parts. -/
theorem fill_two (u v : Value) (Z : Array Value) (n m : Nat) (hA : u.cells.size = n) (hB : v.cells.size = m) (hZ : Z.size = n + m) (place : Nat → Option (Nat × Nat)) (h0 : place 0 = some (0, n)) (h1 : place 1 = some (n, m)) :
    Instr.fill place Z [(0, u), (1, v)] = some (u.cells ++ v.cells) := by
  obtain ⟨s1, g1⟩ := put_get 0 u.cells Z
  obtain ⟨r, hr⟩ : ∃ r, r = (u.cells.zipIdx.foldl (fun cs (x : Value × Nat) => cs.setIfInBounds (0 + x.2) x.1) Z) := ⟨_, rfl⟩
  rw [← hr] at s1 g1
  obtain ⟨s2, g2⟩ := put_get n v.cells r
  simp only [Instr.fill, h0, h1]
  rw [← hr]
  have c1 : ¬ ((decide (u.cells.size ≠ n) || decide (0 + u.cells.size > Z.size)) = true) := by simp; omega
  have c2 : ¬ ((decide (v.cells.size ≠ m) || decide (n + v.cells.size > r.size)) = true) := by simp; omega
  rw [if_neg c1, if_neg c2]
  congr 1
  apply Array.ext_getElem?
  intro k
  refine (g2 k).trans ?_
  rw [s1, g1 k, Array.getElem?_append, hA, hB]
  by_cases hk : k < n
  · rw [if_neg (by omega), if_pos (by omega), if_pos hk]; rfl
  · rw [if_neg hk]
    by_cases hk2 : k < n + m
    · rw [if_pos (by omega)]
    · rw [if_neg (by omega), if_neg (by omega)]
      exact (Array.getElem?_eq_none (by omega)).trans (Array.getElem?_eq_none (by omega)).symm
end
end Go.Proofs.YtgjdaeaiheibbabDoor
