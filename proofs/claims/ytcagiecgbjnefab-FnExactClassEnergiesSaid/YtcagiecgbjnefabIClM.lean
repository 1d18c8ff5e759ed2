/- The program's movesBetween, bothRanked, MoveBetween, KeepersOf. -/
import Derived.Test.YtcagiecgbjnefabIClD
import Derived.Test.YtcagiecgbjnefabClE
import Derived.Test.YtcagiecgbjnefabClN
namespace Go.Proofs.Ytcagiecgbjnefab
set_option maxRecDepth 100000
open Go.RowKit

def flM (xs : List Nat) : List Value := xs.flatMap fun (x : Nat) => [.int .i64 ((x : Int) / 16), .int .i64 ((x : Int) / 4 % 4), .int .i64 ((x : Int) / 2 % 2), .int .i64 ((x : Int) % 2)]
theorem flM_snoc (xs : List Nat) (k : Nat) : flM (xs ++ [k]) = flM xs ++ [.int .i64 ((k : Int) / 16), .int .i64 ((k : Int) / 4 % 4), .int .i64 ((k : Int) / 2 % 2), .int .i64 ((k : Int) % 2)] := by simp [flM]
theorem flM_len (xs : List Nat) : (flM xs).length = xs.length * 4 := by
  induction xs with
  | nil => rfl
  | cons x xs ih => simp only [flM, List.flatMap_cons, List.length_append, List.length_cons, List.length_nil] at ih ⊢; omega
theorem flM_at (xs : List Nat) (i j : Nat) (hi : i < xs.length) (hj : j < 4) : (flM xs)[i * 4 + j]? = (#[Value.int .i64 (((xs.getD i 0 : Nat) : Int) / 16), .int .i64 (((xs.getD i 0 : Nat) : Int) / 4 % 4), .int .i64 (((xs.getD i 0 : Nat) : Int) / 2 % 2), .int .i64 (((xs.getD i 0 : Nat) : Int) % 2)] : Array Value)[j]? := by
  induction xs generalizing i with
  | nil => simp at hi
  | cons x xs ih =>
    have e : flM (x :: xs) = [.int .i64 ((x : Int) / 16), .int .i64 ((x : Int) / 4 % 4), .int .i64 ((x : Int) / 2 % 2), .int .i64 ((x : Int) % 2)] ++ flM xs := by simp [flM]
    rw [e]
    cases i with
    | zero =>
      rw [List.getElem?_append_left (by simp; omega)]
      simp only [Nat.zero_mul, Nat.zero_add, List.getD_cons_zero]
      match j, hj with
      | 0, _ => rfl
      | 1, _ => rfl
      | 2, _ => rfl
      | 3, _ => rfl
    | succ i =>
      rw [List.getElem?_append_right (by simp; omega)]
      have := ih i (by simpa using hi)
      rw [show (i + 1) * 4 + j - [Value.int .i64 ((x : Int) / 16), .int .i64 ((x : Int) / 4 % 4), .int .i64 ((x : Int) / 2 % 2), .int .i64 ((x : Int) % 2)].length = i * 4 + j by simp; omega, this]
      rfl
/-- A list of moves of the call's own. -/
def OwnM (w : World) (B : Nat) (v : Value) (xs : List Nat) : Prop := w.ownsRow B 71 4 v xs.length (flM xs)
def MakesM (w : World) (xs : List Nat) (e : Ending) (w' : World) : Prop := ∃ v, e = .returned v ∧ OwnM w' w.heap.size v xs ∧ Below w.heap.size w w'
theorem OwnM.below {w w' : World} {B : Nat} {v : Value} {xs : List Nat} (h : OwnM w B v xs) (hb : Below w.heap.size w w') : OwnM w' B v xs := rowBelow h hb
theorem OwnM.shape {w : World} {B : Nat} {v : Value} {xs : List Nat} (h : OwnM w B v xs) : ∃ a cap, v = .slice a xs.length cap := by
  rcases h.2 with ⟨rfl, h0⟩ | ⟨g, cap, cur, rfl, hg, hh, hn, rest⟩
  · exact ⟨none, 0, by rw [h0]⟩
  · exact ⟨_, cap, rfl⟩
theorem OwnM.cell {w : World} {B n cap : Nat} {a : Option Addr} {xs : List Nat} (h : OwnM w B (.slice a n cap) xs) (i : Nat) (hi : i < xs.length) :
    ∃ g, a = some ⟨g, 0, none⟩ ∧ g < w.heap.size ∧ w.rangeAt g (i * 4) [.int .i64 (((xs.getD i 0 : Nat) : Int) / 16), .int .i64 (((xs.getD i 0 : Nat) : Int) / 4 % 4), .int .i64 (((xs.getD i 0 : Nat) : Int) / 2 % 2), .int .i64 (((xs.getD i 0 : Nat) : Int) % 2)] := by
  have h' := h
  rcases h.2 with ⟨_, h0⟩ | ⟨g, cap', cur, hv, hg, hh, hn, rest⟩
  · omega
  · simp only [Value.slice.injEq] at hv
    obtain ⟨rfl, rfl, rfl⟩ := hv
    refine ⟨g, rfl, (Array.getElem?_eq_some_iff.1 hh).1, fun j u hj => ?_⟩
    have hj4 : j < 4 := by
      rcases Nat.lt_or_ge j 4 with h1 | h1
      · exact h1
      · rw [List.getElem?_eq_none (by simp; omega)] at hj; cases hj
    have h2 : w.ownsRow B 71 4 (.slice (some ⟨g, 0, none⟩) xs.length cap) xs.length (flM xs) := h'
    have h3 : i * 4 + j < xs.length * 4 := by omega
    rw [h2.cellAt (i * 4 + j) h3, flM_at xs i j hi hj4, ← hj]
    match j, hj4 with
    | 0, _ => rfl
    | 1, _ => rfl
    | 2, _ => rfl
    | 3, _ => rfl
theorem infoMvP : (Try.prog.info? 71).map (fun i => (i.zero, i.size, i.bytes)) = some (some (.agg #[.int .i64 0, .int .i64 0, .int .i64 0, .int .i64 0]), 4, 32) := by kernel_rfl
theorem step_eql {ops : Array Oper} {o : Oper} {a : Act} {w : World} {K : Act → World → Prop} {Q : Exit → Act → World → Prop} {E : Prop} (hgd : o.guard = none) (t u : TypeId) (x y : Operand) (ho : o.op = .binOp .eql t x y u)
    (hm : Try.prog.eqGuardType Try.prog.depth t = false) (A B : Array Value) (b : Bool) (hx : a.eval x = .agg A) (hy : a.eval y = .agg B) (he : (binOp .eql t (.agg A) (.agg B)).run Try.prog w = .ok (.bool b) w) (h : K (a.put o.dst (.bool b)) w) :
    if Region.wanted o (yielded ops a.tmps) = true then Oper.wp Try.prog o a w K Q else E := by
  have hw : Region.wanted o (yielded ops a.tmps) = true := by simp [Region.wanted, hgd]
  rw [if_pos hw]
  have hg := run_eqGuard_agg (P := Try.prog) w .eql t x y A B hm
  unfold Oper.wp
  simp [execOp, ho, hx, hy, hg, he, Result.andThen]
  exact h
theorem range_new (w : World) (cs : List Value) (T : TypeId) : (w.alloc (.cells cs.toArray T)).rangeAt w.heap.size 0 cs := fun j u hj => by
  have := rowC (heap_alloc_new w (.cells cs.toArray T)) (i := 0 + j) (v := u) (by rw [Nat.zero_add]; simpa using hj)
  exact this

end Go.Proofs.Ytcagiecgbjnefab
