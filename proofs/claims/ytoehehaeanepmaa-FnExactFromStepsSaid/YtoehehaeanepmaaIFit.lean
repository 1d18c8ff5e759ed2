/- The program's isFit: which ways have what they require. -/
import Derived.Test.YtoehehaeanepmaaIGo
namespace Go.Proofs.Ytoehehaeanepmaa
set_option maxRecDepth 100000
open Go.RowKit

/-- A pair and a number. -/
def prK (p q : List Int) (k : Int) : Array Value := prC p q ++ #[.int .i64 k]
theorem prK_size (p q : List Int) (k : Int) : (prK p q k).size = 67 := by simp [prK, prC_size]
theorem prK_one (p q : List Int) (k : Int) : (prK p q k).all (·.oneCell') = true := one_append (prC_one p q) (by simp [Value.oneCell'])
theorem prK_pair (p q : List Int) (k : Int) : Part (prK p q k) 0 (prC p q) := (Part.self _).left
theorem prK_fst (p q : List Int) (k : Int) : Part (prK p q k) 0 (phC p) := (prC_fst p q).left
theorem prK_snd (p q : List Int) (k : Int) : Part (prK p q k) 33 (phC q) := (prC_snd p q).left
theorem prK_num (p q : List Int) (k : Int) : (prK p q k)[66]? = some (.int .i64 k) := by
  unfold prK
  rw [Array.getElem?_append_right (by rw [prC_size]; omega), prC_size]
  rfl

section
variable {P : Program}
theorem run_assert_yes (w : World) (v : Value) (X A : TypeId) (fs : Array Field) (hu : P.underlying A = some (.struct fs)) : (Instr.typeAssert (.iface A v) X A true).run P w = .ok (.tuple #[v, .bool true]) w := by
  unfold Instr.typeAssert
  rw [Sem.run_bind, run_underlying hu w]
  simp
theorem run_assert_no (w : World) (v z : Value) (T X A : TypeId) (fs : Array Field) (hu : P.underlying A = some (.struct fs)) (hne : T ≠ A) (hz : ∀ w, (zeroValue A).run P w = .ok z w) : (Instr.typeAssert (.iface T v) X A true).run P w = .ok (.tuple #[z, .bool false]) w := by
  unfold Instr.typeAssert
  rw [Sem.run_bind, run_underlying hu w]
  simp [hne, hz]
end
theorem run_zero_is {P : Program} {t : TypeId} {z : Value} (h : (P.info? t).map (·.zero) = some (some z)) (w : World) : (zeroValue t).run P w = .ok z w := by
  cases hi : P.info? t with
  | none => rw [hi] at h; cases h
  | some it =>
    rw [hi] at h
    simp only [Option.map_some, Option.some.injEq] at h
    exact run_zero_of hi h w
theorem zero_agg {P : Program} {t : TypeId} (h : (P.info? t).map (fun i => match i.zero with | some (.agg _) => true | _ => false) = some true) : ∃ z : Array Value, ∀ w, (zeroValue t).run P w = .ok (.agg z) w := by
  cases hi : P.info? t with
  | none => rw [hi] at h; cases h
  | some it =>
    rw [hi] at h
    simp only [Option.map_some, Option.some.injEq] at h
    cases hz : it.zero with
    | none => rw [hz] at h; cases h
    | some z =>
      rw [hz] at h
      cases z <;> first | exact ⟨_, fun w => run_zero_of hi hz w⟩ | cases h
def prQ (p q r s : List Int) : Array Value := prC p q ++ prC r s
theorem prQ_size (p q r s : List Int) : (prQ p q r s).size = 132 := by simp [prQ, prC_size]
theorem prQ_one (p q r s : List Int) : (prQ p q r s).all (·.oneCell') = true := one_append (prC_one p q) (prC_one r s)
theorem prQ_1 (p q r s : List Int) : Part (prQ p q r s) 0 (prC p q) := (Part.self _).left
theorem prQ_2 (p q r s : List Int) : Part (prQ p q r s) 66 (prC r s) := (Part.self _).right (prC_size p q) rfl
end Go.Proofs.Ytoehehaeanepmaa
