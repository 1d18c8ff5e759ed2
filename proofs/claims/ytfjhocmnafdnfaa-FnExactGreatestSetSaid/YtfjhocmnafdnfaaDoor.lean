/- Work behind a door: what may be raised, and what the door makes of it. The door: what is raised behind it is caught there. The door, for a Gaussian number. -/
import Derived.Recover
import Derived.Test.YtfjhocmnafdnfaaGsn
import Derived.Test.YtfjhocmnafdnfaaCors
namespace Go.Proofs.Ytfjhocmnafdnfaa
set_option maxRecDepth 100000
section
section
open Go.RowKit

/-- What is raised. -/
def rfs (k : Nat) : PanicEntry := { v := .iface 136 (.int .i64 k), recovered := false }
/-- The work makes what A says of (k = 0), or raises k. What was there stays. -/
def Tries (w : World) (k : Nat) (A : Nat → Value → World → Prop) (e : Ending) (w' : World) : Prop :=
  Below w.heap.size w w' ∧ ((k = 0 ∧ ∃ v, e = .returned v ∧ A w.heap.size v w') ∨ (k ≠ 0 ∧ e = .panicked [rfs k]))
/-- What is said of a value made above a bound stays said. -/
structure Lasts (A : Nat → Value → World → Prop) : Prop where
  mono : ∀ {B B' v w}, B ≤ B' → A B' v w → A B v w
  set : ∀ {B v w b u}, b < B → A B v w → A B v (World.setCell w ⟨b, 0, none⟩ u)
def Doors (w : World) (k : Nat) (z : Value) (A : Nat → Value → World → Prop) (e : Ending) (w' : World) : Prop :=
  Below w.heap.size w w' ∧ ∃ v, e = .returned (.tuple #[v, .int .i64 k]) ∧ ((k = 0 ∧ A w.heap.size v w') ∨ (k ≠ 0 ∧ v = z))
def Shares (w : World) (k : Nat) (z : Value) (A : Nat → Value → World → Prop) (e : Ending) (w' : World) : Prop :=
  Below w.heap.size w w' ∧ ∃ v, e = .returned (.tuple #[v, .bool (k == 0)]) ∧ ((k = 0 ∧ A w.heap.size v w') ∨ (k ≠ 0 ∧ v = z))
theorem setGrown (w : World) (b : Nat) (u : Value) : w.grownBy (w.setCell ⟨b, 0, none⟩ u) (some b) :=
  ⟨rfl, rfl, rfl, Nat.le_of_eq (by simp), fun k _ hne => heap_setCell_other w ⟨b, 0, none⟩ k u (fun e => hne (by rw [e]))⟩
theorem lasts_int (k : Int) : Lasts (fun _ v _ => v = .int .i64 k) := ⟨fun _ h => h, fun _ h => h⟩
theorem lasts_own (l : List Int) : Lasts (fun B v w => Own w B v l) :=
  ⟨fun h o => o.mono h, fun h o => o.grown (setGrown _ _ _) (fun k hk => by have := (o.lt k hk).1; simp; omega)⟩
end
section
open Go.RowKit

theorem isRefusal (v : Value) (w : World) : (Instr.typeAssert (.iface 136 v) 20 136 true).run Try.prog w = .ok (.tuple #[v, .bool true]) w := by kernel_rfl
theorem noRefusal (w : World) : (Instr.typeAssert .nilIface 20 136 true).run Try.prog w = .ok (.tuple #[.int .i64 0, .bool false]) w := by kernel_rfl

theorem catchS (p : Addr) (k : Nat) (older : List PanicEntry) (w : World) (hz : w.frozen? p = false) (hc : w.cell? p = some (.int .i64 1)) :
    CallsD Try.prog 195 #[.pointer (some p)] (.panicking (rfs k :: older)) w fun e u' w' =>
      e = .returned (.tuple #[]) ∧ u' = .panicking ({ rfs k with recovered := true } :: older) ∧ w' = w.setCell p (.int .i64 k) := by
  have hta := isRefusal (.int .i64 (k : Int))
  refine callsD_of_wpS Try.func195 rfl fun c₀ cs hu => ?_
  apply wpS_seq
  apply wpS_region
  simp [wpOpsS, go_sem, recoverD, hu, Try.ntmps195, Exit.thenS, rfs, hta]
  apply wpS_seq
  apply wpS_region
  simp [wpOpsS, go_sem, Exit.thenS]
  refine wpS_cond (t := true) (by simp [Act.eval, Array.replicate]) ?_
  simp only [if_true]
  apply wpS_region
  simp [wpOpsS, go_sem, hc, hz, bodyPostS, results, Try.results195]

theorem idleS (p : Addr) (w : World) :
    CallsD Try.prog 195 #[.pointer (some p)] .returning w fun e u' w' => e = .returned (.tuple #[]) ∧ u' = .returning ∧ w' = w := by
  have hta := noRefusal
  refine callsD_of_wpS Try.func195 rfl fun c₀ cs hu => ?_
  apply wpS_seq
  apply wpS_region
  simp [wpOpsS, go_sem, recoverD, hu, Try.ntmps195, Exit.thenS, hta]
  apply wpS_seq
  apply wpS_region
  simp [wpOpsS, go_sem, Exit.thenS]
  refine wpS_cond (t := false) (by simp [Act.eval, Array.replicate]) ?_
  simp only [Bool.false_eq_true, if_false]
  refine wpS_of_wp (wp_skip ?_)
  cases c₀
  simp_all [bodyPostS, results, Try.results195]

set_option maxHeartbeats 1000000 in
theorem doorS (fn : FuncId) (cap : Array Value) (hfn : ∀ w, (callFunc fn cap).run Try.prog w = .ok (.enter fn cap) w) (k : Nat) (A : Nat → Value → World → Prop) (hA : Lasts A) (w : World)
    (h : ∀ w1, Below w.heap.size w w1 → Calls Try.prog fn cap w1 (Tries w1 k A)) : Calls Try.prog 176 #[.func (.func fn) #[] cap] w (Doors w k (.slice none 0 0) A) := by
  have hmf : ∀ (fn : Fn) (first cap : Array Value) (w : World), (Instr.makeFunc fn first cap).run Try.prog w = .ok (.func fn first cap) w := fun _ _ _ _ => rfl
  have H := Lib.hid h
  have HA := Lib.hid hA
  have HFN := Lib.hid hfn
  clear h hA hfn
  go_enter_defers Try.func176, Try.ntmps176
  have hcf := HFN.out
  go_wp2_with fail
  have hB0 : Below w.heap.size w (w.alloc (.cells #[.int .i64 1] 136)) := belowa (Below.refl _ _) _
  refine (H.out _ hB0).mono ?_
  rintro e w1 ⟨hb, ⟨rfl, v, rfl, ha⟩ | ⟨hk, rfl⟩⟩
  · have HB1 := Lib.hid (joins hB0 hb)
    have hc1 := keepc hb (show (w.alloc (.cells #[.int .i64 1] 136)).cell? ⟨w.heap.size, 0, none⟩ = some (.int .i64 1) by simp [go_sem])
    have hz1 : w1.frozen? ⟨w.heap.size, 0, none⟩ = false := by
      rw [hb.frozen (p := ⟨w.heap.size, 0, none⟩) (by simp)]
      simp [go_sem]
    have HS := Lib.hid (HA.out.mono (show w.heap.size ≤ (w.alloc (.cells #[.int .i64 1] 136)).heap.size by simp) (HA.out.set (b := w.heap.size) (u := .int .i64 0) (by simp) ha))
    clear ha hb hB0
    go_wp2_with fail
    refine leaves_cons (f := 195) (args := #[.pointer (some ⟨w.heap.size, 0, none⟩)]) (by simp) (by simp [go_sem]) ?_
    refine (idleS ⟨w.heap.size, 0, none⟩ _).mono ?_
    rintro e u' w'' ⟨rfl, rfl, rfl⟩
    have hc2 : (w1.setCell ⟨w.heap.size, 0, none⟩ (.int .i64 0)).cell? ⟨w.heap.size, 0, none⟩ = some (.int .i64 0) := World.cell?_setCell_same _ _ _ hc1
    simp [Leaves, settle, results, Try.results176, go_sem, hc2]
    exact ⟨belows HB1.out (Nat.le_refl _) _, _, rfl, Or.inl ⟨rfl, HS.out⟩⟩
  · have HB1 := Lib.hid (joins hB0 hb)
    have hc1 := keepc hb (show (w.alloc (.cells #[.int .i64 1] 136)).cell? ⟨w.heap.size, 0, none⟩ = some (.int .i64 1) by simp [go_sem])
    have hz1 : w1.frozen? ⟨w.heap.size, 0, none⟩ = false := by
      rw [hb.frozen (p := ⟨w.heap.size, 0, none⟩) (by simp)]
      simp [go_sem]
    clear hb hB0
    refine leaves_cons (f := 195) (args := #[.pointer (some ⟨w.heap.size, 0, none⟩)]) (by simp) (by simp [go_sem]) ?_
    refine (catchS ⟨w.heap.size, 0, none⟩ k [] _ hz1 hc1).mono ?_
    rintro e u' w'' ⟨rfl, rfl, rfl⟩
    have hc2 : (w1.setCell ⟨w.heap.size, 0, none⟩ (.int .i64 k)).cell? ⟨w.heap.size, 0, none⟩ = some (.int .i64 k) := World.cell?_setCell_same _ _ _ hc1
    simp [Leaves, settle, results, Try.results176, go_sem, hc2]
    exact ⟨belows HB1.out (Nat.le_refl _) _, _, rfl, Or.inr ⟨hk, rfl⟩⟩

theorem sharedS (fn : FuncId) (cap : Array Value) (hfn : ∀ w, (callFunc fn cap).run Try.prog w = .ok (.enter fn cap) w) (k : Nat) (A : Nat → Value → World → Prop) (hA : Lasts A) (w : World)
    (h : ∀ w1, Below w.heap.size w w1 → Calls Try.prog fn cap w1 (Tries w1 k A)) : Calls Try.prog 100 #[.func (.func fn) #[] cap] w (Shares w k (.slice none 0 0) A) := by
  have HD := Lib.hid (doorS fn cap hfn k A hA w h)
  clear hA h
  go_enter Try.func100, Try.ntmps100
  go_wp2_with fail
  refine (HD.out).mono ?_
  rintro e w1 ⟨hb, v, rfl, h⟩
  have HB := Lib.hid hb
  have HH := Lib.hid h
  clear h hb
  go_wp2_with fail
  go_returns
  refine ⟨HB.out, v, ?_, HH.out⟩
  show Ending.returned (.tuple #[v, .bool ((k : Int) == 0)]) = _
  rw [show ((k : Int) == 0) = (k == 0) from by rw [Bool.eq_iff_iff]; simp]

end
end
section
open Go.RowKit

theorem isRefusalG (v : Value) (w : World) : (Instr.typeAssert (.iface 136 v) 20 136 true).run Try.prog w = .ok (.tuple #[v, .bool true]) w := by kernel_rfl
theorem noRefusalG (w : World) : (Instr.typeAssert .nilIface 20 136 true).run Try.prog w = .ok (.tuple #[.int .i64 0, .bool false]) w := by kernel_rfl

end
end Go.Proofs.Ytfjhocmnafdnfaa
