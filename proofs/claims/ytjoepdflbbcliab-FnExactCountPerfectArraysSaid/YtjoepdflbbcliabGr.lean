/- An array as a value of the program: sixty-four numbers and two sides; what it stands for. -/
import Derived.Test.YtjoepdflbbcliabPhs
import Derived.Test.YtjoepdflbbcliabArG
namespace Go.Proofs.Ytjoepdflbbcliab
set_option maxRecDepth 100000
open Go.RowKit

def grT (V : Nat → Int) (n : Nat) : Array Value := ((List.range n).map (fun c => Value.int .i64 (V c))).toArray
def grA (V : Nat → Int) (n m : Int) : Array Value := grT V 64 ++ #[.int .i64 n, .int .i64 m]
theorem grT_size (V : Nat → Int) (n : Nat) : (grT V n).size = n := by simp [grT]
theorem grT_get (V : Nat → Int) (n c : Nat) (h : c < n) : (grT V n)[c]? = some (.int .i64 (V c)) := by simp [grT, h]
theorem grT_one (V : Nat → Int) (n : Nat) : (grT V n).all (·.oneCell') = true := by
  rw [Array.all_eq_true_iff_forall_mem]
  intro v hv
  simp [grT] at hv
  obtain ⟨a, _, rfl⟩ := hv
  rfl
theorem grA_size (V : Nat → Int) (n m : Int) : (grA V n m).size = 66 := by simp [grA, grT_size]
theorem grA_one (V : Nat → Int) (n m : Int) : (grA V n m).all (·.oneCell') = true := by
  unfold grA; rw [Array.all_append, grT_one]; simp [Value.oneCell']
theorem grA_get (V : Nat → Int) (n m : Int) (c : Nat) (h : c < 64) : (grA V n m)[c]? = some (.int .i64 (V c)) := by
  unfold grA; rw [Array.getElem?_append_left (by rw [grT_size]; exact h)]; exact grT_get V 64 c h
theorem grA_rows (V : Nat → Int) (n m : Int) : (grA V n m)[64]? = some (.int .i64 n) := by
  unfold grA; rw [Array.getElem?_append_right (by rw [grT_size]; omega), grT_size]; rfl
theorem grA_cols (V : Nat → Int) (n m : Int) : (grA V n m)[65]? = some (.int .i64 m) := by
  unfold grA; rw [Array.getElem?_append_right (by rw [grT_size]; omega), grT_size]; rfl
def upV (V : Nat → Int) (c : Nat) (x : Int) : Nat → Int := fun d => if d = c then x else V d
theorem grT_set (V : Nat → Int) (n c : Nat) (h : c < n) (x : Int) : (grT V n).setIfInBounds c (.int .i64 x) = grT (upV V c x) n := by
  apply Array.ext_getElem?
  intro j
  by_cases hj : j < n
  · rw [grT_get _ _ _ hj, Array.getElem?_setIfInBounds, grT_size]
    by_cases e : c = j
    · subst e; rw [if_pos rfl, if_pos h]; simp [upV]
    · rw [if_neg e, grT_get _ _ _ hj]; simp [upV, Ne.symm e]
  · rw [Array.getElem?_eq_none (by simp [grT_size]; omega), Array.getElem?_eq_none (by rw [grT_size]; omega)]
theorem grA_set (V : Nat → Int) (n m : Int) (c : Nat) (h : c < 64) (x : Int) : (grA V n m).setIfInBounds c (.int .i64 x) = grA (upV V c x) n m := by
  unfold grA
  rw [← grT_set V 64 c h x, Array.setIfInBounds_append_left (by rw [grT_size]; exact h)]
def G0 : Nat → Int := fun _ => 0
theorem infoGr : (Try.prog.info? 53).map (·.size) = some 66 := by kernel_rfl
theorem infoGrA (V : Nat → Int) (n m : Int) : (Try.prog.info? 53).map (·.size) = some (grA V n m).size := by rw [grA_size]; exact infoGr
theorem zero_of_gr {P : Program} {t : TypeId} {z : Value} (h : (P.info? t).map (·.zero) = some (some z)) (w : World) : (zeroValue t).run P w = .ok z w := by
  cases hi : P.info? t with
  | none => rw [hi] at h; cases h
  | some it =>
    rw [hi] at h
    simp only [Option.map_some, Option.some.injEq] at h
    unfold zeroValue typeInfo
    simp [Sem.run_bind, hi, h]
theorem zeroGr (w : World) : (zeroValue 53).run Try.prog w = .ok (.agg (grA G0 0 0)) w := by
  refine zero_of_gr ?_ w
  kernel_rfl
theorem builtGr (n m : Int) : Try.prog.built 53 [(1, .int .i64 n), (2, .int .i64 m)] = some (grA G0 n m) := by rfl
theorem builtGr0 : Try.prog.built 53 [] = some (grA G0 0 0) := by rfl

/-- The cells of an array of n rows of m: M's, and zeros outside. -/
def GV (n m : Nat) (M : Nat → Nat → Int) : Nat → Int := fun c => if c / 8 < n ∧ c % 8 < m then M (c / 8) (c % 8) else 0
theorem GV_at (n m : Nat) (M : Nat → Nat → Int) (i j : Nat) (hi : i < n) (hj : j < m) (h8 : m ≤ 8) : GV n m M (i * 8 + j) = M i j := by
  unfold GV
  rw [show (i * 8 + j) / 8 = i by omega, show (i * 8 + j) % 8 = j by omega, if_pos ⟨hi, hj⟩]
theorem GV_ext {n m : Nat} {M N : Nat → Nat → Int} (h : ∀ i j, i < n → j < m → M i j = N i j) : GV n m M = GV n m N := by
  funext c
  unfold GV
  by_cases e : c / 8 < n ∧ c % 8 < m
  · rw [if_pos e, if_pos e, h _ _ e.1 e.2]
  · rw [if_neg e, if_neg e]
theorem GV_zero (m : Nat) (M : Nat → Nat → Int) : GV 0 m M = G0 := by funext c; unfold GV; rw [if_neg (by omega)]; rfl
/-- Row by row, up to the one at a, b. -/
def GP (n m a b : Nat) (M : Nat → Nat → Int) : Nat → Int := fun c => if (c / 8 < a ∨ (c / 8 = a ∧ c % 8 < b)) ∧ c / 8 < n ∧ c % 8 < m then M (c / 8) (c % 8) else 0
theorem GP_start (n m : Nat) (M : Nat → Nat → Int) : GP n m 0 0 M = G0 := by funext c; unfold GP; rw [if_neg (by omega)]; rfl
theorem GP_end (n m : Nat) (M : Nat → Nat → Int) : GP n m n 0 M = GV n m M := by
  funext c; unfold GP GV
  by_cases h : c / 8 < n ∧ c % 8 < m
  · rw [if_pos h, if_pos ⟨by omega, h⟩]
  · rw [if_neg h, if_neg (fun e => h e.2)]
theorem GP_row (n m a : Nat) (M : Nat → Nat → Int) : GP n m a m M = GP n m (a + 1) 0 M := by
  funext c; unfold GP
  by_cases h : (c / 8 < a ∨ (c / 8 = a ∧ c % 8 < m)) ∧ c / 8 < n ∧ c % 8 < m
  · rw [if_pos h, if_pos (by omega)]
  · rw [if_neg h, if_neg (by omega)]
theorem GP_step (n m a b : Nat) (M : Nat → Nat → Int) (h8 : m ≤ 8) (ha : a < n) (hb : b < m) : upV (GP n m a b M) (a * 8 + b) (M a b) = GP n m a (b + 1) M := by
  funext c; unfold upV GP
  by_cases e : c = a * 8 + b
  · subst e; rw [if_pos rfl, if_pos (by omega), show (a * 8 + b) / 8 = a by omega, show (a * 8 + b) % 8 = b by omega]
  · rw [if_neg e]
    by_cases h : (c / 8 < a ∨ (c / 8 = a ∧ c % 8 < b)) ∧ c / 8 < n ∧ c % 8 < m
    · rw [if_pos h, if_pos (by omega)]
    · rw [if_neg h, if_neg (by omega)]
/-- A whole row at once. -/
theorem GP_splice (n m a : Nat) (M : Nat → Nat → Int) (x y : Int) (hn : n ≤ 8) (h8 : m ≤ 8) (ha : a < n) (l : List Int) (hl : l.length = m) (hM : ∀ j, j < m → M a j = l.getD j 0) :
    (splice (grA (GP n m a 0 M) x y).toList (a * 8) (l.map (Value.int .i64))).toArray = grA (GP n m (a + 1) 0 M) x y := by
  apply Array.ext_getElem?
  intro c
  rw [List.getElem?_toArray]
  unfold splice
  have hs : (grA (GP n m a 0 M) x y).toList.length = 66 := by simp [grA_size]
  simp only [List.length_map, hl]
  by_cases c1 : c < a * 8
  · rw [List.getElem?_append_left (by rw [List.length_take, hs]; omega), List.getElem?_take_of_lt c1, Array.getElem?_toList, grA_get _ _ _ _ (by omega), grA_get _ _ _ _ (by omega)]
    unfold GP
    by_cases h : c / 8 < n ∧ c % 8 < m
    · rw [if_pos ⟨by omega, h⟩, if_pos ⟨by omega, h⟩]
    · rw [if_neg (fun e => h e.2), if_neg (fun e => h e.2)]
  · by_cases c2 : c < a * 8 + m
    · rw [List.getElem?_append_right (by rw [List.length_take, hs]; omega), List.length_take, hs, List.getElem?_append_left (by rw [List.length_map, hl]; omega), grA_get _ _ _ _ (by omega)]
      have e : c - min (a * 8) 66 = c - a * 8 := by omega
      have hj : c - a * 8 < l.length := by omega
      rw [e, List.getElem?_map, List.getElem?_eq_getElem hj, Option.map_some]
      have h1 := hM (c - a * 8) (by omega)
      unfold GP
      rw [if_pos ⟨by omega, by omega, by omega⟩, show c / 8 = a by omega, show c % 8 = c - a * 8 by omega, h1]
      simp [List.getD, hj]
    · rw [List.getElem?_append_right (by rw [List.length_take, hs]; omega), List.length_take, hs, List.getElem?_append_right (by rw [List.length_map, hl]; omega), List.length_map, hl, List.getElem?_drop, Array.getElem?_toList]
      rw [show a * 8 + m + (c - min (a * 8) 66 - m) = c by omega]
      by_cases c3 : c < 64
      · rw [grA_get _ _ _ _ c3, grA_get _ _ _ _ c3]
        unfold GP
        rw [if_neg (by omega), if_neg (by omega)]
      · by_cases c4 : c = 64
        · subst c4; rw [grA_rows, grA_rows]
        · by_cases c5 : c = 65
          · subst c5; rw [grA_cols, grA_cols]
          · rw [Array.getElem?_eq_none (by rw [grA_size]; omega), Array.getElem?_eq_none (by rw [grA_size]; omega)]
/-- What gridFrom makes of a list of lists. -/
def gfN (l : List (List Int)) : Nat := if arOk l then l.length else 0
def gfM (l : List (List Int)) : Nat := if arOk l then colsOf l else 0
def gfV (l : List (List Int)) : Array Value := grA (GV (gfN l) (gfM l) (atM l)) (gfN l) (gfM l)
theorem gfV_no {l : List (List Int)} (h : arOk l = false) : gfV l = grA G0 0 0 := by
  unfold gfV gfN gfM
  rw [h, if_neg Bool.false_ne_true, if_neg Bool.false_ne_true, GV_zero]; rfl
theorem gfV_yes {l : List (List Int)} (h : arOk l = true) : gfV l = grA (GV l.length (colsOf l) (atM l)) l.length (colsOf l) := by
  unfold gfV gfN gfM
  rw [h, if_pos rfl, if_pos rfl]
end Go.Proofs.Ytjoepdflbbcliab
