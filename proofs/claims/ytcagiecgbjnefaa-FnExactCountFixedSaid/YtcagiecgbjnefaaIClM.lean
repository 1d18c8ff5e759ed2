/- The program's movesBetween, bothRanked, MoveBetween, KeepersOf. -/
import Derived.Test.YtcagiecgbjnefaaIClD
import Derived.Test.YtcagiecgbjnefaaClE
import Derived.Test.YtcagiecgbjnefaaClN
namespace Go.Proofs.Ytcagiecgbjnefaa
set_option maxRecDepth 100000
open Go.RowKit

def flM (xs : List Nat) : List Value := xs.flatMap fun (x : Nat) => [.int .i64 ((x : Int) / 16), .int .i64 ((x : Int) / 4 % 4), .int .i64 ((x : Int) / 2 % 2), .int .i64 ((x : Int) % 2)]
theorem flM_snoc (xs : List Nat) (k : Nat) : flM (xs ++ [k]) = flM xs ++ [.int .i64 ((k : Int) / 16), .int .i64 ((k : Int) / 4 % 4), .int .i64 ((k : Int) / 2 % 2), .int .i64 ((k : Int) % 2)] := by simp [flM]
theorem flM_len (xs : List Nat) : (flM xs).length = xs.length * 4 := by
  induction xs with
  | nil => rfl
  | cons x xs ih => simp only [flM, List.flatMap_cons, List.length_append, List.length_cons, List.length_nil] at ih ⊢; omega
theorem flM_at (xs : List Nat) (i j : Nat) (hi : i < xs.length) (hj : j < 4) : (flM xs)[i * 4 + j]? = (#[Value.int .i64 (((xs.getD i 0 : Nat) : Int) / 16), .int .i64 (((xs.getD i 0 : Nat) : Int) / 4 % 4), .int .i64 (((xs.getD i 0 : Nat) : Int) / 2 % 2), .int .i64 (((xs.getD i 0 : Nat) : Int) % 2)] : Array Value)[j]? := by
  induction xs generalizing i with
  | nil => simp at hi
  | cons x xs ih =>
    have e : flM (x :: xs) = [.int .i64 ((x : Int) / 16), .int .i64 ((x : Int) / 4 % 4), .int .i64 ((x : Int) / 2 % 2), .int .i64 ((x : Int) % 2)] ++ flM xs := by simp [flM]
    rw [e]
    cases i with
    | zero =>
      rw [List.getElem?_append_left (by simp; omega)]
      simp only [Nat.zero_mul, Nat.zero_add, List.getD_cons_zero]
      match j, hj with
      | 0, _ => rfl
      | 1, _ => rfl
      | 2, _ => rfl
      | 3, _ => rfl
    | succ i =>
      rw [List.getElem?_append_right (by simp; omega)]
      have := ih i (by simpa using hi)
      rw [show (i + 1) * 4 + j - [Value.int .i64 ((x : Int) / 16), .int .i64 ((x : Int) / 4 % 4), .int .i64 ((x : Int) / 2 % 2), .int .i64 ((x : Int) % 2)].length = i * 4 + j by simp; omega, this]
      rfl
/-- A list of moves of the call's own. -/
def OwnM (w : World) (B : Nat) (v : Value) (xs : List Nat) : Prop := w.ownsRow B 44 4 v xs.length (flM xs)
def MakesM (w : World) (xs : List Nat) (e : Ending) (w' : World) : Prop := ∃ v, e = .returned v ∧ OwnM w' w.heap.size v xs ∧ Below w.heap.size w w'
theorem OwnM.below {w w' : World} {B : Nat} {v : Value} {xs : List Nat} (h : OwnM w B v xs) (hb : Below w.heap.size w w') : OwnM w' B v xs := rowBelow h hb
theorem OwnM.shape {w : World} {B : Nat} {v : Value} {xs : List Nat} (h : OwnM w B v xs) : ∃ a cap, v = .slice a xs.length cap := by
  rcases h.2 with ⟨rfl, h0⟩ | ⟨g, cap, cur, rfl, hg, hh, hn, rest⟩
  · exact ⟨none, 0, by rw [h0]⟩
  · exact ⟨_, cap, rfl⟩
theorem OwnM.cell {w : World} {B n cap : Nat} {a : Option Addr} {xs : List Nat} (h : OwnM w B (.slice a n cap) xs) (i : Nat) (hi : i < xs.length) :
    ∃ g, a = some ⟨g, 0, none⟩ ∧ g < w.heap.size ∧ w.rangeAt g (i * 4) [.int .i64 (((xs.getD i 0 : Nat) : Int) / 16), .int .i64 (((xs.getD i 0 : Nat) : Int) / 4 % 4), .int .i64 (((xs.getD i 0 : Nat) : Int) / 2 % 2), .int .i64 (((xs.getD i 0 : Nat) : Int) % 2)] := by
  have h' := h
  rcases h.2 with ⟨_, h0⟩ | ⟨g, cap', cur, hv, hg, hh, hn, rest⟩
  · omega
  · simp only [Value.slice.injEq] at hv
    obtain ⟨rfl, rfl, rfl⟩ := hv
    refine ⟨g, rfl, (Array.getElem?_eq_some_iff.1 hh).1, fun j u hj => ?_⟩
    have hj4 : j < 4 := by
      rcases Nat.lt_or_ge j 4 with h1 | h1
      · exact h1
      · rw [List.getElem?_eq_none (by simp; omega)] at hj; cases hj
    have h2 : w.ownsRow B 44 4 (.slice (some ⟨g, 0, none⟩) xs.length cap) xs.length (flM xs) := h'
    have h3 : i * 4 + j < xs.length * 4 := by omega
    rw [h2.cellAt (i * 4 + j) h3, flM_at xs i j hi hj4, ← hj]
    match j, hj4 with
    | 0, _ => rfl
    | 1, _ => rfl
    | 2, _ => rfl
    | 3, _ => rfl
theorem infoMvP : (Try.prog.info? 44).map (fun i => (i.zero, i.size, i.bytes)) = some (some (.agg #[.int .i64 0, .int .i64 0, .int .i64 0, .int .i64 0]), 4, 32) := by kernel_rfl
theorem wpList_pushM {ops : Array Oper} {rest : List Oper} {o : Oper} {a : Act} {w : World} {Q : Exit → Act → World → Prop} (hg : o.guard = none) (s x : Operand)
    (ho : o.op = .call { callee := .builtin .append, args := #[s, x], argTypes := #[53, 53] }) (B : Nat) (v : Value) (l : List Nat) (hs : a.eval s = v) (hown : OwnM w B v l)
    (g c : Nat) (k : Nat) (hx : a.eval x = .slice (some ⟨g, 0, none⟩) 1 c) (hc : w.rangeAt g 0 [.int .i64 ((k : Int) / 16), .int .i64 ((k : Int) / 4 % 4), .int .i64 ((k : Int) / 2 % 2), .int .i64 ((k : Int) % 2)]) (hlen : l.length ≤ 1048576)
    (S : Nat) (w0 : World) (hb : Below S w0 w) (hS : S ≤ B) (hB : B ≤ w.heap.size) (hSw : S ≤ w.heap.size)
    (hK : ∀ v' w', OwnM w' B v' (l ++ [k]) → Below S w0 w' → wpList Try.prog ops Q rest (a.put o.dst v') w') : wpList Try.prog ops Q (o :: rest) a w := by
  obtain ⟨i0, hi, hz0, hz1, hz2⟩ := info_parts infoMvP
  refine wpList_append_own w hg s x 53 ho B 44 i0 (.agg #[.int .i64 0, .int .i64 0, .int .i64 0, .int .i64 0]) 4 32 Try.underlying53 hi hz0 hz1 hz2 rfl (by decide) v l.length (flM l) hs hown ⟨g, 0, none⟩ 1 c [.int .i64 ((k : Int) / 16), .int .i64 ((k : Int) / 4 % 4), .int .i64 ((k : Int) / 2 % 2), .int .i64 ((k : Int) % 2)] hx rfl ?_ ?_ ?_ ?_ hB ?_
  · intro j u hj
    have := hc j u hj
    rwa [Addr.add_lit]
  · intro u hu; simp at hu; rcases hu with rfl | rfl | rfl | rfl <;> rfl
  · unfold maxLen; omega
  · omega
  · intro v' w' hown' hgr _
    refine hK v' w' ?_ (hb.grown hgr hSw (fun k hk => Nat.le_trans hS (hown.lt k hk).1))
    unfold OwnM
    rw [List.length_append, flM_snoc]
    exact hown'
theorem step_eql {ops : Array Oper} {o : Oper} {a : Act} {w : World} {K : Act → World → Prop} {Q : Exit → Act → World → Prop} {E : Prop} (hgd : o.guard = none) (t u : TypeId) (x y : Operand) (ho : o.op = .binOp .eql t x y u)
    (hm : Try.prog.eqGuardType Try.prog.depth t = false) (A B : Array Value) (b : Bool) (hx : a.eval x = .agg A) (hy : a.eval y = .agg B) (he : (binOp .eql t (.agg A) (.agg B)).run Try.prog w = .ok (.bool b) w) (h : K (a.put o.dst (.bool b)) w) :
    if Region.wanted o (yielded ops a.tmps) = true then Oper.wp Try.prog o a w K Q else E := by
  have hw : Region.wanted o (yielded ops a.tmps) = true := by simp [Region.wanted, hgd]
  rw [if_pos hw]
  have hg := run_eqGuard_agg (P := Try.prog) w .eql t x y A B hm
  unfold Oper.wp
  simp [execOp, ho, hx, hy, hg, he, Result.andThen]
  exact h
theorem range_new (w : World) (cs : List Value) (T : TypeId) : (w.alloc (.cells cs.toArray T)).rangeAt w.heap.size 0 cs := fun j u hj => by
  have := rowC (heap_alloc_new w (.cells cs.toArray T)) (i := 0 + j) (v := u) (by rw [Nat.zero_add]; simpa using hj)
  exact this

set_option maxRecDepth 100000 in
set_option maxHeartbeats 4000000 in
theorem movesBetween_any (p q : List Int) (hp : isSeq p = true) (hq : isSeq q = true) (w : World) : Calls Try.prog 47 #[.agg (phC p), .agg (phC q)] w (MakesM w (mbX p q 64)) := by
  have ZM := Lib.hid zeroMv
  have HOF := Lib.hid (fun (k : Nat) (hk : k < 64) w => show Calls Try.prog 37 #[.agg #[.int .i64 ((k : Int) / 16), .int .i64 ((k : Int) / 4 % 4), .int .i64 ((k : Int) / 2 % 2), .int .i64 ((k : Int) % 2)], .agg (phC p)] w (Ret w (.agg (phC (clX k p)))) from moveOf_any _ _ _ _ (by omega) (by omega) (by omega) (by omega) p hp w)
  have HAT := Lib.hid (fun (k : Nat) (hk : k < 64) w => show Calls Try.prog 65 #[.int .i64 k] w (Ret w (.agg #[.int .i64 ((k : Int) / 16), .int .i64 ((k : Int) / 4 % 4), .int .i64 ((k : Int) / 2 % 2), .int .i64 ((k : Int) % 2)])) from moveAt_any k hk w)
  have HEQ := Lib.hid (fun (k : Nat) w => eql_ph (clX_seq k p hp) hq w)
  have I0 := Lib.hid (phC_info p)
  have I1 := Lib.hid (phC_info q)
  have HN := Lib.hid (fun k => mbX_succ p q k)
  have HLE := Lib.hid (mbX_le p q)
  obtain ⟨C0, h0⟩ : ∃ C, C = phC p := ⟨_, rfl⟩
  rw [← h0] at HOF I0 ⊢
  obtain ⟨C1, h1⟩ : ∃ C, C = phC q := ⟨_, rfl⟩
  rw [← h1] at HEQ I1 ⊢
  obtain ⟨E, hE⟩ : ∃ E : Nat → Array Value, E = fun k => phC (clX k p) := ⟨_, rfl⟩
  have hEk : ∀ k, phC (clX k p) = E k := fun k => by rw [hE]
  simp only [hEk] at HOF HEQ
  obtain ⟨X, hX⟩ : ∃ X, X = mbX p q := ⟨_, rfl⟩
  rw [← hX] at HN HLE ⊢
  have HX0 := Lib.hid (show X 0 = [] by rw [hX]; rfl)
  clear h0 h1 hE hEk hX hp hq
  have B0 := Lib.hid (Below.refl w.heap.size w)
  go_enter Try.func47, Try.ntmps47
  go_wp2_with (first
    | ((with_reducible refine at_op (Op.box 50 (.tmp 0)) ?_); refine wpList_box_row rfl 50 (.tmp 0) rfl C0 rfl ?_; intro w1 hr hb hz; have R1_p := Lib.hid hr; have B1 := Lib.hid (joins B0.out hb); have L1_p := Lib.hid (show w.heap.size ≤ w.heap.size from B0.out.size); clear hr hb hz)
    | ((with_reducible refine at_op (Op.box 50 (.tmp 1)) ?_); refine wpList_box_row rfl 50 (.tmp 1) rfl C1 rfl ?_; intro w2 hr hb hz; have N2_p_q := Lib.hid (Nat.ne_of_lt (row_lt R1_p.out)); have N2_q_p := Lib.hid (Ne.symm N2_p_q.out); have R2_p := Lib.hid (rowB R1_p.out hb); have R2_q := Lib.hid hr; have B2 := Lib.hid (joins B1.out hb); have L2_q := Lib.hid (show w.heap.size ≤ w1.heap.size from B1.out.size); clear hr hb hz))
  go_loopw [8, 5] (fun x o wr => ∃ k : Nat, k ≤ 64 ∧ x = .int .i64 k ∧ OwnM wr w2.heap.size o (X k) ∧ Below w2.heap.size w2 wr) (fun x _ _ => 64 - (intOf x).toNat)
  case atStart => exact ⟨0, Nat.zero_le _, rfl, by rw [HX0.out]; exact World.ownsRow_nil _ _ _ _, Below.refl _ _⟩
  case round =>
    obtain ⟨k, hk, rfl, hown, hbel⟩ := hrel
    have RO := Lib.hid hown
    have BR := Lib.hid hbel
    have RP := Lib.hid (rowB R2_p.out hbel)
    have RQ := Lib.hid (rowB R2_q.out hbel)
    clear hown hbel
    by_cases hlt : k < 64
    · have h0 : (0 : Int) ≤ (k : Int) := by omega
      have h1 : (k : Int) < 64 := by omega
      have HOk := Lib.hid (HOF.out k hlt)
      have HAk := Lib.hid (HAT.out k hlt)
      have HEk := Lib.hid (HEQ.out k)
      have hnx := HN.out k
      have HXL := Lib.hid (show (X k).length ≤ 1048576 by have := HLE.out k; omega)
      obtain ⟨F, hF⟩ : ∃ F, F = E k := ⟨_, rfl⟩
      rw [← hF] at HOk HEk
      clear hF
      by_cases hx : clX k p = q
      · rw [if_pos hx] at hnx
        rw [decide_eq_true hx] at HEk
        have HX := Lib.hid hnx
        clear hnx hx
        go_wp2_with fail
        refine (HAk.out _).mono ?_
        rintro e w11 ⟨rfl, hb⟩
        have R11_p := Lib.hid (rowB RP.out hb)
        have R11_q := Lib.hid (rowB RQ.out hb)
        have F11_o := Lib.hid (OwnM.below RO.out hb)
        have B11 := Lib.hid (joins BR.out hb)
        clear hb
        go_wp2_with (first
          | ((with_reducible refine at_op (d := some 7) (Op.alloc 44) ?_); refine wpList_alloc_row rfl 44 rfl zM ZM.out ?_; intro w12 hr hb hz; have R12_m := Lib.hid hr; have L12_m := Lib.hid (show w11.heap.size ≤ w11.heap.size from Nat.le_refl _); have D12 := Lib.hid (hb); clear hr hb hz)
          | ((with_reducible refine at_op (Op.store 44 (.tmp 7) (.tmp 12)) ?_); refine wpList_put_row rfl 44 (.tmp 7) (.tmp 12) rfl (w11.heap.size) #[.int .i64 ((k : Int) / 16), .int .i64 ((k : Int) / 4 % 4), .int .i64 ((k : Int) / 2 % 2), .int .i64 ((k : Int) % 2)] rfl rfl 44 zM R12_m.out 4 infoMv rfl rfl (one4 _ _ _ _) w11.heap.size w11 D12.out L12_m.out ?_; intro w13 hr hs hb; have R13_m := Lib.hid hr; have R13_p := Lib.hid (rowB R11_p.out hb); have R13_q := Lib.hid (rowB R11_q.out hb); have F13_o := Lib.hid (OwnM.below F11_o.out hb); have B13 := Lib.hid (joins B11.out hb); have L13_m := Lib.hid (Nat.le_trans B11.out.size L12_m.out); clear hr hs hb))
        refine wp_region_held_drew (S := (fun w' => World.grownBy w13 w' none)) (by kernel_rfl) (grownDrew (World.grownBy.refl _ _)) ?_
        obtain ⟨w14, hdw⟩ : ∃ w', w' = w13.drew := ⟨_, rfl⟩
        rw [← hdw]
        have hb : Below w13.heap.size w13 w14 := by rw [hdw]; exact belowN (Below.refl _ _) 1
        have R14_p := Lib.hid (rowB R13_p.out hb)
        have R14_q := Lib.hid (rowB R13_q.out hb)
        have R14_m := Lib.hid (rowB R13_m.out hb)
        have F14_o := Lib.hid (OwnM.below F13_o.out hb)
        have B14 := Lib.hid (joins B13.out hb)
        clear hdw hb
        intro hHeld
        refine' wpAnyH_take (i := 0) (v := _) rfl (by kernel_rfl) (by kernel_rfl) (by kernel_rfl) (fun _ _ _ h => h) (yieldsPart (by rfl) 44 (.tmp 7) rfl (w11.heap.size) 0 rfl #[.int .i64 ((k : Int) / 16), .int .i64 ((k : Int) / 4 % 4), .int .i64 ((k : Int) / 2 % 2), .int .i64 ((k : Int) % 2)] #[.int .i64 ((k : Int) / 16), .int .i64 ((k : Int) / 4 % 4), .int .i64 ((k : Int) / 2 % 2), .int .i64 ((k : Int) % 2)] 44 (0, 0) _ (fun w h => (rowG R13_m.out h (by simp))) (Part.self _) Try.underlying44 rfl (info4 _ _ _ _)) (by assumption) ?rest1
        (try simp only [Act.put, List.getElem_toArray, List.getElem_cons_zero, List.setIfInBounds_toArray, List.set_cons_zero, List.set_cons_succ])
        refine' wpAnyH_take (i := 1) (v := _) rfl (by kernel_rfl) (by kernel_rfl) (by kernel_rfl) (fun _ _ _ h => h) (yieldsPart (by rfl) 50 (.tmp 2) rfl (w.heap.size) 0 rfl C0 C0 50 (0, 0) _ (fun w h => (rowG R13_p.out h (by simp))) (Part.self _) Try.underlying50 rfl I0.out) (by assumption) ?rest2
        (try simp only [Act.put, List.getElem_toArray, List.getElem_cons_zero, List.getElem_cons_succ, List.setIfInBounds_toArray, List.set_cons_zero, List.set_cons_succ])
        refine' wpAnyH_take (i := 3) (v := _) rfl (by kernel_rfl) (by kernel_rfl) (by kernel_rfl) (fun _ _ _ h => h) (yieldsPart (by rfl) 50 (.tmp 3) rfl (w1.heap.size) 0 rfl C1 C1 50 (0, 0) _ (fun w h => (rowG R13_q.out h (by simp))) (Part.self _) Try.underlying50 rfl I1.out) (by assumption) ?rest3
        (try simp only [Act.put, List.getElem_toArray, List.getElem_cons_zero, List.getElem_cons_succ, List.setIfInBounds_toArray, List.set_cons_zero, List.set_cons_succ])
        refine wpAnyH_ready (rs := [2]) (by kernel_rfl) (by simp) ?_
        refine AllReadyH.cons rfl (fun K hK => ?_) AllReadyH.nil
        go_simp
        refine (HOk.out _).mono ?_
        rintro e w15 ⟨rfl, hb⟩
        have R15_p := Lib.hid (rowB R14_p.out hb)
        have R15_q := Lib.hid (rowB R14_q.out hb)
        have R15_m := Lib.hid (rowB R14_m.out hb)
        have F15_o := Lib.hid (OwnM.below F14_o.out hb)
        have B15 := Lib.hid (joins B14.out hb)
        have hHeld := grownB hHeld hb
        clear hb
        refine hK.out _ _ hHeld (fun hHeld => ?_)
        clear hK K
        (try simp only [Act.put, List.getElem_toArray, List.getElem_cons_zero, List.getElem_cons_succ, List.setIfInBounds_toArray, List.set_cons_zero, List.set_cons_succ])
        refine wpAnyH_ready (rs := [4]) (by kernel_rfl) (by simp) ?_
        refine AllReadyH.cons rfl (fun K hK => ?_) AllReadyH.nil
        refine step_eql rfl 50 50 (.tmp 15) (.tmp 16) rfl (by kernel_rfl) _ _ _ rfl rfl (HEk.out _) ?_
        refine hK.out _ _ hHeld (fun hHeld => ?_)
        clear hK K
        (try simp only [Act.put, List.getElem_toArray, List.getElem_cons_zero, List.getElem_cons_succ, List.setIfInBounds_toArray, List.set_cons_zero, List.set_cons_succ])
        refine wpAnyH_done (by kernel_rfl) ?_ _
        have JB := Lib.hid B15.out
        have OJ := Lib.hid F15_o.out
        go_wp2_with (first
          | ((with_reducible refine at_op (d := some 19) (Op.load 44 (.tmp 7)) ?_); refine wpList_load_part rfl 44 (.tmp 7) rfl (w11.heap.size) 0 rfl #[.int .i64 ((k : Int) / 16), .int .i64 ((k : Int) / 4 % 4), .int .i64 ((k : Int) / 2 % 2), .int .i64 ((k : Int) % 2)] #[.int .i64 ((k : Int) / 16), .int .i64 ((k : Int) / 4 % 4), .int .i64 ((k : Int) / 2 % 2), .int .i64 ((k : Int) % 2)] 44 (0, 0) _ R15_m.out (Part.self _) Try.underlying44 rfl (info4 _ _ _ _) ?_)
          | (at_builtin; refine wpList_pushM rfl _ _ rfl w2.heap.size _ (X k) rfl ((OJ.out).alloc _) w15.heap.size 1 k rfl (range_new _ _ _) HXL.out w2.heap.size w2 (belowa JB.out _) (Nat.le_refl _) (by have := JB.out.size; simp; omega) (by have := JB.out.size; simp; omega) ?_; intro v9 w9 ho9 hb9))
        go_roundw
        case rel => exact ⟨k + 1, by omega, by go_num, by rw [HX.out]; exact ho9, hb9⟩
        case measure => simp [intOf]; omega
      · rw [if_neg hx, List.append_nil] at hnx
        rw [decide_eq_false hx] at HEk
        have HX := Lib.hid hnx
        clear hnx hx
        go_wp2_with fail
        refine (HAk.out _).mono ?_
        rintro e w41 ⟨rfl, hb⟩
        have R41_p := Lib.hid (rowB RP.out hb)
        have R41_q := Lib.hid (rowB RQ.out hb)
        have F41_o := Lib.hid (OwnM.below RO.out hb)
        have B41 := Lib.hid (joins BR.out hb)
        clear hb
        go_wp2_with (first
          | ((with_reducible refine at_op (d := some 7) (Op.alloc 44) ?_); refine wpList_alloc_row rfl 44 rfl zM ZM.out ?_; intro w42 hr hb hz; have R42_m := Lib.hid hr; have L42_m := Lib.hid (show w41.heap.size ≤ w41.heap.size from Nat.le_refl _); have D42 := Lib.hid (hb); clear hr hb hz)
          | ((with_reducible refine at_op (Op.store 44 (.tmp 7) (.tmp 12)) ?_); refine wpList_put_row rfl 44 (.tmp 7) (.tmp 12) rfl (w41.heap.size) #[.int .i64 ((k : Int) / 16), .int .i64 ((k : Int) / 4 % 4), .int .i64 ((k : Int) / 2 % 2), .int .i64 ((k : Int) % 2)] rfl rfl 44 zM R42_m.out 4 infoMv rfl rfl (one4 _ _ _ _) w41.heap.size w41 D42.out L42_m.out ?_; intro w43 hr hs hb; have R43_m := Lib.hid hr; have R43_p := Lib.hid (rowB R41_p.out hb); have R43_q := Lib.hid (rowB R41_q.out hb); have F43_o := Lib.hid (OwnM.below F41_o.out hb); have B43 := Lib.hid (joins B41.out hb); have L43_m := Lib.hid (Nat.le_trans B41.out.size L42_m.out); clear hr hs hb))
        refine wp_region_held_drew (S := (fun w' => World.grownBy w43 w' none)) (by kernel_rfl) (grownDrew (World.grownBy.refl _ _)) ?_
        obtain ⟨w44, hdw⟩ : ∃ w', w' = w43.drew := ⟨_, rfl⟩
        rw [← hdw]
        have hb : Below w43.heap.size w43 w44 := by rw [hdw]; exact belowN (Below.refl _ _) 1
        have R44_p := Lib.hid (rowB R43_p.out hb)
        have R44_q := Lib.hid (rowB R43_q.out hb)
        have R44_m := Lib.hid (rowB R43_m.out hb)
        have F44_o := Lib.hid (OwnM.below F43_o.out hb)
        have B44 := Lib.hid (joins B43.out hb)
        clear hdw hb
        intro hHeld
        refine' wpAnyH_take (i := 0) (v := _) rfl (by kernel_rfl) (by kernel_rfl) (by kernel_rfl) (fun _ _ _ h => h) (yieldsPart (by rfl) 44 (.tmp 7) rfl (w41.heap.size) 0 rfl #[.int .i64 ((k : Int) / 16), .int .i64 ((k : Int) / 4 % 4), .int .i64 ((k : Int) / 2 % 2), .int .i64 ((k : Int) % 2)] #[.int .i64 ((k : Int) / 16), .int .i64 ((k : Int) / 4 % 4), .int .i64 ((k : Int) / 2 % 2), .int .i64 ((k : Int) % 2)] 44 (0, 0) _ (fun w h => (rowG R43_m.out h (by simp))) (Part.self _) Try.underlying44 rfl (info4 _ _ _ _)) (by assumption) ?rest4
        (try simp only [Act.put, List.getElem_toArray, List.getElem_cons_zero, List.setIfInBounds_toArray, List.set_cons_zero, List.set_cons_succ])
        refine' wpAnyH_take (i := 1) (v := _) rfl (by kernel_rfl) (by kernel_rfl) (by kernel_rfl) (fun _ _ _ h => h) (yieldsPart (by rfl) 50 (.tmp 2) rfl (w.heap.size) 0 rfl C0 C0 50 (0, 0) _ (fun w h => (rowG R43_p.out h (by simp))) (Part.self _) Try.underlying50 rfl I0.out) (by assumption) ?rest5
        (try simp only [Act.put, List.getElem_toArray, List.getElem_cons_zero, List.getElem_cons_succ, List.setIfInBounds_toArray, List.set_cons_zero, List.set_cons_succ])
        refine' wpAnyH_take (i := 3) (v := _) rfl (by kernel_rfl) (by kernel_rfl) (by kernel_rfl) (fun _ _ _ h => h) (yieldsPart (by rfl) 50 (.tmp 3) rfl (w1.heap.size) 0 rfl C1 C1 50 (0, 0) _ (fun w h => (rowG R43_q.out h (by simp))) (Part.self _) Try.underlying50 rfl I1.out) (by assumption) ?rest6
        (try simp only [Act.put, List.getElem_toArray, List.getElem_cons_zero, List.getElem_cons_succ, List.setIfInBounds_toArray, List.set_cons_zero, List.set_cons_succ])
        refine wpAnyH_ready (rs := [2]) (by kernel_rfl) (by simp) ?_
        refine AllReadyH.cons rfl (fun K hK => ?_) AllReadyH.nil
        go_simp
        refine (HOk.out _).mono ?_
        rintro e w45 ⟨rfl, hb⟩
        have R45_p := Lib.hid (rowB R44_p.out hb)
        have R45_q := Lib.hid (rowB R44_q.out hb)
        have R45_m := Lib.hid (rowB R44_m.out hb)
        have F45_o := Lib.hid (OwnM.below F44_o.out hb)
        have B45 := Lib.hid (joins B44.out hb)
        have hHeld := grownB hHeld hb
        clear hb
        refine hK.out _ _ hHeld (fun hHeld => ?_)
        clear hK K
        (try simp only [Act.put, List.getElem_toArray, List.getElem_cons_zero, List.getElem_cons_succ, List.setIfInBounds_toArray, List.set_cons_zero, List.set_cons_succ])
        refine wpAnyH_ready (rs := [4]) (by kernel_rfl) (by simp) ?_
        refine AllReadyH.cons rfl (fun K hK => ?_) AllReadyH.nil
        refine step_eql rfl 50 50 (.tmp 15) (.tmp 16) rfl (by kernel_rfl) _ _ _ rfl rfl (HEk.out _) ?_
        refine hK.out _ _ hHeld (fun hHeld => ?_)
        clear hK K
        (try simp only [Act.put, List.getElem_toArray, List.getElem_cons_zero, List.getElem_cons_succ, List.setIfInBounds_toArray, List.set_cons_zero, List.set_cons_succ])
        refine wpAnyH_done (by kernel_rfl) ?_ _
        have JB := Lib.hid B45.out
        have OJ := Lib.hid F45_o.out
        go_wp2_with fail
        go_roundw
        case rel => exact ⟨k + 1, by omega, by go_num, by rw [HX.out]; exact OJ.out, JB.out⟩
        case measure => simp [intOf]; omega
    · obtain rfl : k = 64 := by omega
      go_wp2_with fail
      go_returns
      exact ⟨_, rfl, rowMono RO.out B2.out.size, joins B2.out BR.out⟩
end Go.Proofs.Ytcagiecgbjnefaa
