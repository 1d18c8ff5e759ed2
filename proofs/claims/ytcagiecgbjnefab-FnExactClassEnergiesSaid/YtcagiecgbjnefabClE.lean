/- Sequences as values compared by ==, and as keys. -/
import Derived.Test.YtcagiecgbjnefabPcM
import Derived.DeepKeys4
import Derived.Laws.StructEq
import Derived.Maps.Keyed
namespace Go.Proofs.Ytcagiecgbjnefab
set_option maxRecDepth 100000
open Go.RowKit

theorem mapM_given {α β : Type} {f : α → Option β} {g : α → β} : ∀ l : List α, (∀ i ∈ l, f i = some (g i)) → l.mapM f = some (l.map g)
  | [], _ => by simp
  | a :: r, h => by
    rw [List.mapM_cons, h a (by simp), mapM_given r (fun i hi => h i (by simp [hi]))]
    rfl
/-- The cells of a sequence as they are read in a key. -/
def klC (A : List Int) (n : Int) : List Lit := (A ++ [n]).map (Lit.int .i64)
theorem litsInt (D : Nat) (x : Int) (h : (Lit.int .i64 x).wf = true) : Try.prog.keyLits (D + 1) 3 [.int .i64 x] = some [.int .i64 x] := by
  unfold Program.keyLits
  rw [Try.underlying3]
  simp [h]
theorem flatten_one {α β : Type} (l : List α) (g : α → β) : (l.map (fun i => [g i])).flatten = l.map g := by
  induction l with
  | nil => rfl
  | cons a r ih => simp [ih]
theorem cellsOfI : Try.prog.cellsOf 3 = 1 := by kernel_rfl
theorem cellsOfA : Try.prog.cellsOf 45 = 32 := by kernel_rfl
theorem cellsOfP : Try.prog.cellsOf 47 = 33 := by kernel_rfl
theorem litsArr (D : Nat) (A : List Int) (hA : A.length = 32) (h : ∀ x ∈ A, (Lit.int .i64 x).wf = true) : Try.prog.keyLits (D + 2) 45 (A.map (Value.int .i64)) = some (A.map (Lit.int .i64)) := by
  unfold Program.keyLits
  rw [Try.underlying45]
  have hl : (A.map (Value.int .i64)).length = Try.prog.cellsOf 45 := by rw [cellsOfA, List.length_map, hA]
  simp only [hl, if_true]
  rw [cellsOfI, mapM_given (g := fun i => [Lit.int .i64 (A.getD i 0)]) (List.range 32) (fun i hi => ?_)]
  · rw [Option.map_some, flatten_one]
    congr 1
    apply List.ext_getElem
    · simp [hA]
    · intro i h1 h2
      simp at h1 h2
      simp [List.getD, h2]
  · have hi2 : i < 32 := by simpa using hi
    have hd : (((A.map (Value.int .i64)).drop (i * 1)).take 1) = [.int .i64 (A.getD i 0)] := by
      rw [Nat.mul_one]
      apply List.ext_getElem
      · simp [hA]; omega
      · intro j h1 h2
        simp at h2
        subst h2
        simp [List.getD, show i < A.length by omega]
    rw [hd]
    refine litsInt D _ (h _ ?_)
    have : i < A.length := by omega
    simp only [List.getD, List.getElem?_eq_getElem this, Option.getD_some]
    exact List.getElem_mem this
theorem litsPh (D : Nat) (A : List Int) (n : Int) (hA : A.length = 32) (h : ∀ x ∈ A, (Lit.int .i64 x).wf = true) (hn : (Lit.int .i64 n).wf = true) : Try.prog.keyLits (D + 3) 47 (phA A n).toList = some (klC A n) := by
  have e : (phA A n).toList = A.map (Value.int .i64) ++ [.int .i64 n] := by simp [phA]
  unfold Program.keyLits
  rw [Try.underlying47, e]
  have hl : (A.map (Value.int .i64) ++ [Value.int .i64 n]).length = Try.prog.cellsOf 47 := by rw [cellsOfP]; simp [hA]
  have h1 : ((A.map (Value.int .i64) ++ [Value.int .i64 n]).drop 0).take (Try.prog.cellsOf 45) = A.map (Value.int .i64) := by
    rw [cellsOfA, List.drop_zero, List.take_left' (by simp [hA])]
  have h2 : ((A.map (Value.int .i64) ++ [Value.int .i64 n]).drop 32).take (Try.prog.cellsOf 3) = [.int .i64 n] := by
    rw [cellsOfI, List.drop_left' (by simp [hA])]; rfl
  have l1 := litsArr D A hA h
  have l2 := litsInt (D + 1) n hn
  simp only [List.mapM_cons, List.mapM_nil, h1, h2, l1, l2, hl]
  simp [klC]
theorem wfSmall (x : Int) (h : -1000 ≤ x ∧ x ≤ 1000) : (Lit.int .i64 x).wf = true := WalkArith.wf_i64 (by omega)
theorem pad_in {l : List Int} (h : isSeq l = true) : ∀ x ∈ padL l, 0 ≤ x ∧ x ≤ 3 := by
  intro x hx
  rcases List.mem_append.1 hx with h1 | h1
  · obtain ⟨i, hi, rfl⟩ := List.getElem_of_mem h1
    have := allIn_getD (isSeq_all h) i hi
    simpa [List.getD, hi] using this
  · have := List.eq_of_mem_replicate h1
    omega
theorem litsSeq (D : Nat) {l : List Int} (h : isSeq l = true) : Try.prog.keyLits (D + 3) 47 (phC l).toList = some (klC (padL l) l.length) := by
  have h32 := isSeq_len h
  rw [phC_seq h]
  exact litsPh D _ _ (padL_length h32) (fun x hx => wfSmall x (by have := pad_in h x hx; omega)) (wfSmall _ (by omega))
theorem klC_inj {p q : List Int} (h : klC (padL p) p.length = klC (padL q) q.length) : p = q := by
  unfold klC at h
  have h1 := List.map_inj_right (fun a b e => by injection e) |>.1 h
  have h2 := List.append_inj' h1 rfl
  have h3 : (p.length : Int) = q.length := by simpa using h2.2
  have h4 : p.length = q.length := by omega
  rw [← pad_take p, ← pad_take q, h2.1, h4]
theorem formedPh (A : Array Value) (h : A.size = 33) : (Value.agg A).formed Try.prog 47 = true := by
  unfold Value.formed
  rw [Try.underlying47]
  simp [cellsOfP, h]
/-- Two sequences compared. -/
theorem equal_ph {p q : List Int} (hp : isSeq p = true) (hq : isSeq q = true) (w : World) : (Op.equalIn 10000 47 (.agg (phC p)) (.agg (phC q))).run Try.prog w = .ok (decide (p = q)) w := by
  have H := run_equalIn_deep (P := Try.prog) 9997 3 47 (by kernel_rfl)
  obtain ⟨r, hr, hiff⟩ := H w 3 3 (.agg (phC p)) (.agg (phC q)) _ _ (formedPh _ (phC_size p)) (formedPh _ (phC_size q)) (litsSeq 0 hp) (litsSeq 0 hq)
  have hd : r = decide (p = q) := by
    by_cases e : p = q
    · rw [decide_eq_true e]; exact hiff.2 (by rw [e])
    · rw [decide_eq_false e]
      cases r with
      | false => rfl
      | true => exact absurd (klC_inj (hiff.1 rfl)) e
  rw [← hd]
  exact hr
theorem eql_ph {p q : List Int} (hp : isSeq p = true) (hq : isSeq q = true) (w : World) : (binOp .eql 47 (.agg (phC p)) (.agg (phC q))).run Try.prog w = .ok (.bool (decide (p = q))) w := by
  rw [run_eql_struct, equal_ph hp hq]
  rfl
end Go.Proofs.Ytcagiecgbjnefab
