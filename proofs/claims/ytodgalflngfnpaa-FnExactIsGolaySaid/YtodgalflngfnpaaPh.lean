/- The program's sequences as values: an array of thirty-two numbers and a length, whole; phasesOf, list. -/
import Derived.Test.YtodgalflngfnpaaSeq
import Derived.Deep.WholeRow
import Derived.Laws.ResultCell
import Derived.Laws.CopyOwn
import Derived.Great.BuildSlice
namespace Go.Proofs.Ytodgalflngfnpaa
set_option maxRecDepth 100000
open Go.RowKit

/-- The cells of such a value. -/
def phA (A : List Int) (n : Int) : Array Value := ((A ++ [n]).map (Value.int .i64)).toArray
def z32 : List Int := List.replicate 32 0
def padL (l : List Int) : List Int := l ++ List.replicate (32 - l.length) 0
theorem z32_length : z32.length = 32 := by simp [z32]
theorem padL_length {l : List Int} (h : l.length ≤ 32) : (padL l).length = 32 := by simp [padL]; omega
theorem padL_nil : padL [] = z32 := rfl
theorem phA_size (A : List Int) (n : Int) (h : A.length = 32) : (phA A n).size = 33 := by simp [phA, h]
theorem phA_get (A : List Int) (n : Int) (i : Nat) (h : i < A.length) : (phA A n)[i]? = some (.int .i64 (A.getD i 0)) := by
  simp [phA, List.getElem?_append, h, List.getD]
theorem phA_len (A : List Int) (n : Int) (h : A.length = 32) : (phA A n)[32]? = some (.int .i64 n) := by
  simp [phA, h]
theorem phA_set (A : List Int) (n : Int) (i : Nat) (h : i < A.length) (x : Int) : (phA A n).setIfInBounds i (.int .i64 x) = phA (A.set i x) n := by
  apply Array.ext_getElem?
  intro j
  simp only [phA]
  rw [List.setIfInBounds_toArray]
  simp only [List.getElem?_toArray]
  rw [← List.map_set, List.set_append_left _ _ h]
theorem phA_one (A : List Int) (n : Int) : (phA A n).all (·.oneCell') = true := by
  rw [Array.all_eq_true_iff_forall_mem]
  intro v hv
  simp [phA] at hv
  rcases hv with ⟨a, _, rfl⟩ | rfl <;> rfl
theorem infoPh : (Try.prog.info? 48).map (·.size) = some 33 := by kernel_rfl
theorem zeroPh (w : World) : (zeroValue 48).run Try.prog w = .ok (.agg (phA z32 0)) w := by
  rw [Try.zeroValue48]
  rfl

section
variable {P : Program}
/-- A new variable of a struct's type, its cells under a name. -/
theorem wpList_alloc_big {ops : Array Oper} {rest : List Oper} {o : Oper} {a : Act} {w : World} {Q : Exit → Act → World → Prop} (hg : o.guard = none) (t : TypeId) (ho : o.op = .alloc t)
    (Z : Array Value) (hz : ∀ w, (zeroValue t).run P w = .ok (.agg Z) w)
    (h : wpList P ops Q rest (a.put o.dst (.pointer (some ⟨w.heap.size, 0, none⟩))) (w.alloc (.cells Z t))) : wpList P ops Q (o :: rest) a w := by
  refine wpList_plain hg fun K hK => ?_
  unfold Oper.wp execOp
  simp only [ho, Instr.alloc, Sem.run_bind, hz, Result.andThen_ok]
  exact hK _ _ h
/-- A whole row is stored; the world behind it under a name. -/
theorem wpList_store_big {ops : Array Oper} {rest : List Oper} {o : Oper} {a : Act} {w : World} {Q : Exit → Act → World → Prop} (hgd : o.guard = none) (ty : TypeId) (x y : Operand) (ho : o.op = .store ty x y)
    (g : Nat) (cells : Array Value) (hx : a.eval x = .pointer (some ⟨g, 0, none⟩)) (hy : a.eval y = .agg cells)
    (t : TypeId) (old : Array Value) (hg : w.heap[g]? = some (.cells old t (0, 0))) (n : Nat) (hi : (P.info? ty).map (·.size) = some n) (hn : cells.size = n)
    (hold : old.size = n) (h1 : cells.all (·.oneCell') = true) (S : Nat) (w0 : World) (hb : Below S w0 w) (hS : S ≤ g)
    (h : ∀ w', w'.heap[g]? = some (.cells cells t (0, 0)) → (∀ k, k ≠ g → w'.heap[k]? = w.heap[k]?) → w'.heap.size = w.heap.size → Below S w0 w' → wpList P ops Q rest (a.put o.dst undef) w') : wpList P ops Q (o :: rest) a w := by
  refine wpList_store_row hgd ty x y ho g cells hx hy t old hg (by rw [hn]; exact hi) (by rw [hn]; exact hold) h1 ?_
  refine h _ (setRow_heap w g old _ t _ hg) (fun k hk => setRow_other w g k _ hk) (by simp) ?_
  exact hb.trans ⟨rfl, rfl, rfl, by simp, fun k hk => setRow_other w g k _ (by omega)⟩
/-- A whole row is loaded by a guarded operation that is wanted. -/
theorem wpList_load_row_w {ops : Array Oper} {rest : List Oper} {o : Oper} {a : Act} {w : World} {Q : Exit → Act → World → Prop} (hw : Region.wanted o (yielded ops a.tmps) = true) (ty : TypeId) (x : Operand) (ho : o.op = .load ty x)
    (g : Nat) (hx : a.eval x = .pointer (some ⟨g, 0, none⟩)) (t : TypeId) (cs : Array Value) (fr : Nat × Nat) (d : TypeDesc) (hg : w.heap[g]? = some (.cells cs t fr))
    (hu : P.underlying ty = some d) (hd : (match d with | .struct _ | .array _ _ => true | _ => false) = true) (hi : (P.info? ty).map (·.size) = some cs.size)
    (h : wpList P ops Q rest (a.put o.dst (.agg cs)) w) : wpList P ops Q (o :: rest) a w :=
  wpList_step fun _ hK => by rw [if_pos hw]; exact wp_load_row ty x ho g hx t cs fr d hg hu hd hi (hK _ _ h)
end

theorem elemArr : Try.prog.elem 46 = 3 := by kernel_rfl
theorem lenArr : Try.prog.arrayLen 46 = 32 := by kernel_rfl
theorem slice_h (g n : Nat) (hn : n ≤ 32) (w : World) : (Instr.sliceAt 46 (.pointer (some ⟨g, 0, none⟩)) none (some (.int .i64 n)) none).run Try.prog w = .ok (.slice (some ⟨g, 0, none⟩) n 32) w := by
  have hu : Try.prog.underlying 46 = some (.array (Try.prog.arrayLen 46) (Try.prog.elem 46)) := by rw [lenArr, elemArr]; exact Try.underlying46
  rw [run_sliceAt_array_h w _ _ hu .i64 n (by omega) (by rw [lenArr]; omega), lenArr, elemArr]
  simp [go_sem]
/-! ### list: the numbers as far as the length goes -/
set_option maxRecDepth 100000 in
set_option maxHeartbeats 1000000 in
theorem list_any (A : List Int) (n : Nat) (hA : A.length = 32) (hn : n ≤ 32) (w : World) : Calls Try.prog 64 #[.agg (phA A n)] w (Makes w (A.take n)) := by
  obtain ⟨i0, hi, hz0, hz1, hz2⟩ := info_parts infoInt
  have hlen := phA_len A n hA
  obtain ⟨cs, hcs⟩ : ∃ cs, cs = phA A n := ⟨_, rfl⟩
  rw [← hcs] at hlen ⊢
  have HCS := Lib.hid hcs
  clear hcs
  go_enter Try.func64, Try.ntmps64
  go_wp2_with (at_make; refine wpList_make_full _ rfl _ _ 22 rfl (w.heap.size + 1) 3 i0 (.int .i64 0) 1 Try.underlying22 hi hz0 hz1 _ _ _ _ n rfl rfl rfl rfl ?b2 ?b3 ?b4 ?_)
  case b2 => rw [hz2]; omega
  case b3 => unfold maxLen; omega
  case b4 => simp
  intro w0 hown0 hgrow0
  have hblk : w0.heap[w.heap.size]? = some (.cells cs 48 (0, 0)) := by
    rw [hgrow0.block w.heap.size (by simp) (by simp)]
    exact heap_alloc_new w _
  have c32 : w0.cell? ⟨w.heap.size, 32, none⟩ = some (.int .i64 n) := by rw [cell_of_row w0 _ _ _ _ _ hblk]; exact hlen
  have hcap : ∃ cur : Array Value, w0.heap[w.heap.size + 1]? = some (.cells cur 3 (0, 0)) ∧ cur.size = n := by
    rcases hown0.2 with ⟨hh, _⟩ | ⟨g, cap, cur, hv, _, hh, _, _, hsz, _⟩
    · cases hh
    · simp only [Value.slice.injEq, Option.some.injEq, Addr.mk.injEq, and_true, true_and] at hv
      obtain ⟨rfl, rfl⟩ := hv
      exact ⟨cur, hh, by omega⟩
  obtain ⟨cur, hcur, hcsz⟩ := hcap
  have HB0 : Below w.heap.size w w0 := ((Below.refl _ _).alloc (Nat.le_refl _) (.cells cs 48)).grown hgrow0 (by simp) (fun k h => by cases h)
  have hsrc : ∀ j v, ((A.take n).map (Value.int .i64))[j]? = some v → w0.cell? ((⟨w.heap.size, 0, none⟩ : Addr).add j) = some v := by
    intro j v hj
    have hjl : j < n := by have := (List.getElem?_eq_some_iff.1 hj).1; simp at this; omega
    rw [Addr.add_lit, Nat.zero_add, cell_of_row w0 _ _ _ _ _ hblk, HCS.out, phA_get A n j (by omega), ← hj]
    simp [hjl, List.getD, show j < A.length by omega]
  obtain ⟨L, hL⟩ : ∃ L, L = (A.take n).map (Value.int .i64) := ⟨_, rfl⟩
  have hLn : L.length = n := by rw [hL]; simp; omega
  have hL1 : ∀ v ∈ L, v.oneCell' = true := by
    intro v hv
    rw [hL] at hv
    simp only [List.mem_map] at hv
    obtain ⟨x, _, rfl⟩ := hv
    rfl
  rw [← hL] at hsrc
  have hspl : (splice cur.toList 0 L).toArray = L.toArray := by
    unfold splice
    rw [List.take_zero, List.nil_append, List.drop_of_length_le (by simp; omega), List.append_nil]
  have HSPL := Lib.hid hspl
  have HCUR := Lib.hid hcur
  have HSRC := Lib.hid hsrc
  have HSZ := Lib.hid hcsz
  have HL := Lib.hid hL
  have HLN := Lib.hid hLn
  have HL1 := Lib.hid hL1
  have hsl := slice_h w.heap.size n hn
  have hi1 : (Try.prog.info? 3).map (·.size) = some 1 := by kernel_rfl
  have HI1 := Lib.hid hi1
  clear hown0 hgrow0 hblk hcur hsrc hcsz hlen hz0 hz1 hz2 hi1 hi hL hLn hL1 hspl
  go_wp2_with (refine wpList_copy_splice rfl (.tmp 7) (.tmp 11) 22 22 rfl 3 Try.underlying22 HI1.out _ _ _ _ _ _ rfl rfl (w.heap.size + 1) 0 cur.toList 3 HCUR.out L (by rw [HLN.out]; exact (Nat.min_self n).symm) (fun _ => ⟨rfl, _, rfl, HSRC.out⟩) (by have := HSZ.out; have := HLN.out; simp; omega) HL1.out w.heap.size w HB0 (by omega) ?_; intro w3 hg3 hb3)
  go_returns
  have hg := hg3.out
  rw [HSPL.out] at hg
  refine ⟨_, rfl, ?_, ‹_›⟩
  have hn2 : (A.take n).length = n := by simp; omega
  unfold Own
  rw [hn2, ← HL.out]
  refine ⟨by rw [HLN.out]; omega, .inr ⟨w.heap.size + 1, n, L.toArray, rfl, by omega, hg, Nat.le_refl _, by unfold maxLen; omega, by simp [HLN.out], ?_⟩⟩
  simp
  exact List.take_of_length_le (Nat.le_of_eq HLN.out)

/-! ### phasesOf -/
theorem slice_all (g : Nat) (w : World) : (Instr.sliceAt 46 (.pointer (some ⟨g, 0, none⟩)) none none none).run Try.prog w = .ok (.slice (some ⟨g, 0, none⟩) 32 32) w := by
  have hu : Try.prog.underlying 46 = some (.array (Try.prog.arrayLen 46) (Try.prog.elem 46)) := by rw [lenArr, elemArr]; exact Try.underlying46
  rw [run_sliceAt_array_all w _ _ hu, lenArr, elemArr]
  simp [go_sem]
theorem phL_built (n : Int) : Try.prog.built 48 [(1, .int .i64 n)] = some (phA z32 n) := by rfl
theorem phZ_built : Try.prog.built 48 [] = some (phA z32 0) := by rfl
theorem pad_splice (l : List Int) (n : Int) (h : l.length ≤ 32) : (splice (phA z32 n).toList 0 (l.map (Value.int .i64))).toArray = phA (padL l) n := by
  have e : (z32 ++ [n]).drop l.length = List.replicate (32 - l.length) 0 ++ [n] := by
    rw [List.drop_append_of_le_length (by rw [z32_length]; exact h)]
    unfold z32
    rw [List.drop_replicate]
  unfold splice phA padL
  rw [List.take_zero, List.nil_append, Nat.zero_add, List.length_map, ← List.map_drop, e, ← List.map_append, List.append_assoc]
/-- The cells of a block, said of a world that keeps it. -/
theorem IS.cells {w : World} {v : Value} {l : List Int} (h : IS w v l) : ∃ a cap, v = .slice a l.length cap ∧ (0 < l.length → ∃ ad, a = some ad ∧ ∀ j u, (l.map (Value.int .i64))[j]? = some u → w.cell? (ad.add j) = some u) := by
  rcases h with ⟨rfl, a, cap, rfl⟩ | ⟨_, b, off, cap, rfl, _, hc⟩
  · exact ⟨a, cap, rfl, fun h => absurd h (Nat.lt_irrefl _)⟩
  · refine ⟨_, cap, rfl, fun _ => ⟨_, rfl, fun j u hj => ?_⟩⟩
    have hjl : j < l.length := by have := (List.getElem?_eq_some_iff.1 hj).1; simpa using this
    rw [Addr.add_lit, hc j hjl, ← hj]
    simp [List.getD, hjl]

set_option maxRecDepth 100000 in
set_option maxHeartbeats 1000000 in
theorem phasesOf_seq (v : Value) (l : List Int) (w : World) (hv : IS w v l) (hl : isSeq l = true) : Calls Try.prog 99 #[v] w (Ret w (.tuple #[.agg (phA (padL l) l.length), .bool true])) := by
  have h32 := isSeq_len hl
  have hvv := hv
  obtain ⟨a, cap, hveq, hcells⟩ := hv.cells
  subst hveq
  have HC := Lib.hid hcells
  clear hcells
  have hi1 : (Try.prog.info? 3).map (·.size) = some 1 := by kernel_rfl
  have HI1 := Lib.hid hi1
  clear hi1
  have hsl := fun g w => slice_all g w
  go_enter Try.func99, Try.ntmps99
  go_wp2_with (refine wpList_alloc_big rfl 48 rfl (phA z32 0) zeroPh ?_)
  refine (isSequence_any _ l _ (hvv.below (by go_grown)) (by omega)).mono ?_
  rintro e w1 ⟨rfl, hb1⟩
  have hg0 : w1.heap[w.heap.size]? = some (.cells (phA z32 0) 48 (0, 0)) := by
    rw [hb1.block w.heap.size (by simp)]
    exact heap_alloc_new w _
  have hB1 : Below w.heap.size w w1 := via hb1 (by simp) (by go_grown)
  have hs1 : w.heap.size + 1 ≤ w1.heap.size := by have := hb1.size; simpa using this
  have hinfo : (Try.prog.info? 48).map (·.size) = some (phA (padL l) l.length).size := by rw [phA_size _ _ (padL_length h32)]; exact infoPh
  have HINFO := Lib.hid hinfo
  have HG0 := Lib.hid hg0
  clear hg0 hb1 hinfo
  go_wp2_with (first
    | (refine wpList_alloc_big rfl 48 rfl (phA z32 0) zeroPh ?_)
    | (refine wpList_store_big rfl 48 (.tmp 4) (.tmp 11) rfl w1.heap.size (phA z32 l.length) rfl rfl 48 _ (heap_alloc_new _ _) 33 infoPh (phA_size _ _ z32_length) (phA_size _ _ z32_length) (phA_one _ _) w.heap.size w (by go_grown) (by omega) ?_; intro w2 hg2 ho2 hz2 hb2; have HG2 := Lib.hid (show w2.heap[w1.heap.size]? = some (.cells (phA z32 l.length).toList.toArray 48 (0, 0)) by simpa using hg2); have HG02 := Lib.hid ((ho2 w.heap.size (by omega)).trans ((heap_alloc_old _ _ (by omega)).trans HG0.out)); clear hg2 ho2 hz2)
    | (refine wpList_copy_splice rfl (.tmp 13) (.tmp 14) 22 22 rfl 3 Try.underlying22 HI1.out _ _ _ _ _ _ rfl rfl w1.heap.size 0 (phA z32 l.length).toList 48 HG2.out (l.map (Value.int .i64)) (by rw [List.length_map]; exact (Nat.min_eq_left h32).symm) (fun h => ⟨rfl, by obtain ⟨ad, h1, h2⟩ := HC.out (by simpa using h); exact ⟨ad, h1, fun j u hj => keepc hb2 (h2 j u hj)⟩⟩) (by have := phA_size z32 l.length z32_length; simp; omega) (by intro u hu; simp only [List.mem_map] at hu; obtain ⟨x, _, rfl⟩ := hu; rfl) w1.heap.size w2 (Below.refl _ _) (Nat.le_refl _) ?_; intro w3 hg3 hb3)
    | (refine wpList_load_row rfl 48 (.tmp 4) rfl w1.heap.size rfl 48 (phA (padL l) l.length) (0, 0) _ (by rw [← pad_splice l _ h32]; exact hg3.out) Try.underlying48 rfl HINFO.out ?_)
    | (refine wpList_store_big rfl 48 (.tmp 2) (.tmp 16) rfl w.heap.size (phA (padL l) l.length) rfl rfl 48 (phA z32 0) ((hb3.block _ (by omega)).trans HG02.out) 33 infoPh (phA_size _ _ (padL_length h32)) (phA_size _ _ z32_length) (phA_one _ _) w.heap.size w (hb2.trans (hb3.mono (by omega))) (Nat.le_refl _) ?_; intro w4 hg4 ho4 hz4 hb4))
  refine bodyPost_ret (v := .tuple #[.agg (phA (padL l) l.length), .bool true]) ?_ rfl ⟨rfl, ‹_›⟩
  rw [results_cell_tmp (p := 2) (u := 3) (ty := 48) Try.results99]
  simp [asAddr, run_loadVar_row _ w.heap.size 48 48 _ (0, 0) _ (by assumption) Try.underlying48 rfl HINFO.out, Result.andThen]

set_option maxRecDepth 100000 in
set_option maxHeartbeats 1000000 in
theorem phasesOf_not (v : Value) (l : List Int) (w : World) (hv : IS w v l) (hl : isSeq l = false) (hlen : l.length ≤ 1048576) : Calls Try.prog 99 #[v] w (Ret w (.tuple #[.agg (phA z32 0), .bool false])) := by
  have hvv := hv
  obtain ⟨a, cap, hveq, -⟩ := hv.cells
  subst hveq
  go_enter Try.func99, Try.ntmps99
  go_wp2_with (refine wpList_alloc_big rfl 48 rfl (phA z32 0) zeroPh ?_)
  refine (isSequence_any _ l _ (hvv.below (by go_grown)) hlen).mono ?_
  rintro e w1 ⟨rfl, hb1⟩
  have hg0 : w1.heap[w.heap.size]? = some (.cells (phA z32 0) 48 (0, 0)) := by
    rw [hb1.block w.heap.size (by simp)]
    exact heap_alloc_new w _
  have hB1 : Below w.heap.size w w1 := via hb1 (by simp) (by go_grown)
  have hinfo : (Try.prog.info? 48).map (·.size) = some (phA z32 0).size := by rw [phA_size _ _ z32_length]; exact infoPh
  have HINFO := Lib.hid hinfo
  have HG0 := Lib.hid hg0
  clear hg0 hb1 hinfo
  go_wp2_with (refine wpList_store_big rfl 48 (.tmp 2) (.tmp 8) rfl w.heap.size (phA z32 0) rfl rfl 48 (phA z32 0) HG0.out 33 infoPh (phA_size _ _ z32_length) (phA_size _ _ z32_length) (phA_one _ _) w.heap.size w hB1 (Nat.le_refl _) ?_; intro w4 hg4 ho4 hz4 hb4)
  refine bodyPost_ret (v := .tuple #[.agg (phA z32 0), .bool false]) ?_ rfl ⟨rfl, ‹_›⟩
  rw [results_cell_tmp (p := 2) (u := 3) (ty := 48) Try.results99]
  simp [asAddr, run_loadVar_row _ w.heap.size 48 48 _ (0, 0) _ (by assumption) Try.underlying48 rfl HINFO.out, Result.andThen]
end Go.Proofs.Ytodgalflngfnpaa
