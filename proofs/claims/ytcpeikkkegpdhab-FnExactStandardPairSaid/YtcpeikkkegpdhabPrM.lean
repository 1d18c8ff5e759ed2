/- Pairs of sequences as values of sixty-six cells; the moves of sequences, told by phC. -/
import Derived.Test.YtcpeikkkegpdhabPhs
import Derived.Test.YtcpeikkkegpdhabPair
import Derived.Test.YtcpeikkkegpdhabGoF
import Derived.Test.YtcpeikkkegpdhabMov
namespace Go.Proofs.Ytcpeikkkegpdhab
set_option maxRecDepth 100000
open Go.RowKit

def prC (p q : List Int) : Array Value := phC p ++ phC q
theorem prC_size (p q : List Int) : (prC p q).size = 66 := by simp [prC, phC_size]
theorem one_append {A B : Array Value} (hA : A.all (·.oneCell') = true) (hB : B.all (·.oneCell') = true) : (A ++ B).all (·.oneCell') = true := by
  rw [Array.all_append, hA, hB]; rfl
theorem prC_one (p q : List Int) : (prC p q).all (·.oneCell') = true := one_append (phC_one p) (phC_one q)
theorem prC_fst (p q : List Int) : Part (prC p q) 0 (phC p) := (Part.self _).left
theorem prC_snd (p q : List Int) : Part (prC p q) 33 (phC q) := (Part.self _).right (phC_size p) rfl
theorem prC_len (p q : List Int) : (prC p q)[32]? = some (.int .i64 (sqz p).length) := by
  have := (prC_fst p q).cell (phC_len p)
  simpa using this
theorem sqz_seq {l : List Int} (h : isSeq l = true) : sqz l = l := by unfold sqz; rw [h]; rfl
theorem phC_nil : phC [] = phA z32 0 := by rfl
theorem infoPr : (Try.prog.info? 45).map (·.size) = some 66 := by kernel_rfl
theorem infoPr2 : (Try.prog.info? 45).map (fun i => (i.zero, i.size)) = some (some (.agg (prC [] [])), 66) := by kernel_rfl
theorem run_zero_of {P : Program} {t : TypeId} {it : TypeInfo} {z : Value} (hi : P.info? t = some it) (hz : it.zero = some z) (w : World) : (zeroValue t).run P w = .ok z w := by
  unfold zeroValue typeInfo
  simp [Sem.run_bind, hi, hz]
theorem zeroPr (w : World) : (zeroValue 45).run Try.prog w = .ok (.agg (prC [] [])) w := by
  have h := infoPr2
  cases hi : Try.prog.info? 45 with
  | none => rw [hi] at h; cases h
  | some it =>
    rw [hi] at h
    simp only [Option.map_some, Option.some.injEq, Prod.mk.injEq] at h
    exact run_zero_of hi h.1 w
theorem built_pair0 : Try.prog.built 45 [] = some (prC [] []) := by rfl
theorem built_pair (A B : Array Value) (hA : A.size = 33) (hB : B.size = 33) : Try.prog.built 45 [(0, .agg A), (1, .agg B)] = some (A ++ B) := by
  have hz := infoPr2
  have hu := Try.underlying45
  have hi := infoPh
  unfold Program.built
  cases h : Try.prog.info? 45 with
  | none => rw [h] at hz; cases hz
  | some it =>
    rw [h] at hz
    simp only [Option.map_some, Option.some.injEq, Prod.mk.injEq] at hz
    cases h2 : Try.prog.info? 43 with
    | none => rw [h2] at hi; cases hi
    | some i =>
      rw [h2] at hi
      simp only [Option.map_some, Option.some.injEq] at hi
      simp only [hu, hz.1, h2, List.mapM_cons, List.mapM_nil, Option.map_some, Option.bind_eq_bind, Option.bind_some, Option.pure_def, hi]
      exact fill_two (.agg A) (.agg B) _ 33 33 hA hB (prC_size _ _) _ rfl rfl

/-! The moves of one sequence -/
theorem turnedC (l : List Int) (k : Int) (hl : isSeq l = true) (h1 : -1000 ≤ k) (h2 : k ≤ 1000) (w : World) : Calls Try.prog 48 #[.agg (phC l), .int .i64 k] w (Ret w (.agg (phC (turnG l k)))) := by
  rw [phC_seq hl, phC_seq (turnG_seq l k hl), turnG_length]
  exact turned_any l k hl h1 h2 w
theorem climbedC (l : List Int) (k : Int) (hl : isSeq l = true) (h1 : 0 ≤ k) (h2 : k ≤ 3) (w : World) : Calls Try.prog 56 #[.agg (phC l), .int .i64 k] w (Ret w (.agg (phC (climbG l k)))) := by
  have hs : isSeq (climbG l k) = true := gen_seq _ _ (isSeq_len hl) (fun i _ => by omega)
  rw [phC_seq hl, phC_seq hs, climbG_length]
  exact climbed_any l k hl h1 h2 w
theorem conjugateC (l : List Int) (hl : isSeq l = true) (w : World) : Calls Try.prog 54 #[.agg (phC l)] w (Ret w (.agg (phC (barG l)))) := by
  rw [phC_seq hl, phC_seq (barG_seq l hl), barG_length]
  exact conjugate_any l hl w
theorem backwardsC (l : List Int) (hl : isSeq l = true) (w : World) : Calls Try.prog 44 #[.agg (phC l)] w (Ret w (.agg (phC (backG l)))) := by
  rw [phC_seq hl, phC_seq (backG_seq l hl), backG_length]
  exact backwards_any l hl w
/-- A list that a move of two makes, and whether it makes one. -/
def PairMove (f : Nat) (m : List Int → List Int → List Int) (ok : List Int → List Int → Bool) : Prop :=
  ∀ (a b : List Int) (w : World), isSeq a = true → isSeq b = true → a.length = b.length → Calls Try.prog f #[.agg (phC a), .agg (phC b)] w (Ret w (.tuple #[.agg (phC (iff (ok a b) (m a b))), .bool (ok a b)]))
def fits (a _b : List Int) : Bool := decide (2 * a.length ≤ 32)
theorem joinedC : PairMove 49 (fun a b => a ++ b) fits := fun a b w ha hb hab => by
  by_cases h : 2 * a.length ≤ 32
  · have hf : fits a b = true := decide_eq_true h
    have hs : isSeq (a ++ b) = true := by rw [cat_seq a b ha hb]; exact decide_eq_true (by omega)
    rw [hf, iff_yes _ rfl, phC_seq ha, phC_seq hb, phC_seq hs]
    exact joined_any a b (by omega) w
  · have hf : fits a b = false := decide_eq_false h
    rw [hf, iff_no _ rfl, phC_seq ha, phC_seq hb, phC_nil]
    exact joined_not a b ha hb (by omega) w
theorem interleavedC : PairMove 52 weaveG fits := fun a b w ha hb hab => by
  by_cases h : 2 * a.length ≤ 32
  · have hf : fits a b = true := decide_eq_true h
    have hs : isSeq (weaveG a b) = true := by rw [weaveG_seq a b ha hb hab]; exact decide_eq_true h
    rw [hf, iff_yes _ rfl, phC_seq ha, phC_seq hb, phC_seq hs]
    exact weaved_any a b ⟨hab, by omega⟩ w
  · have hf : fits a b = false := decide_eq_false h
    rw [hf, iff_no _ rfl, phC_seq ha, phC_seq hb, phC_nil]
    exact weaved_not a b ha hb (by omega) w
theorem listC (l : List Int) (hl : isSeq l = true) (w : World) : Calls Try.prog 18 #[.agg (phC l)] w (Makes w l) := by
  have h32 := isSeq_len hl
  rw [phC_seq hl]
  have := list_any (padL l) l.length (padL_length h32) h32 w
  rwa [pad_take] at this
end Go.Proofs.Ytcpeikkkegpdhab
