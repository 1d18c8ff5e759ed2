/- Work behind a door: what may be raised, and what the door makes of it. The door: what is raised behind it is caught there. The door, for a Gaussian number. -/
import Derived.Recover
import Derived.Test.YtapmehgdnofgnabGsn
import Derived.Test.YtapmehgdnofgnabCors
namespace Go.Proofs.Ytapmehgdnofgnab
set_option maxRecDepth 100000
section
section
open Go.RowKit

/-- What is raised. -/
def rfs (k : Nat) : PanicEntry := { v := .iface 96 (.int .i64 k), recovered := false }
/-- The work makes what A says of (k = 0), or raises k. What was there stays. -/
def Tries (w : World) (k : Nat) (A : Nat → Value → World → Prop) (e : Ending) (w' : World) : Prop :=
  Below w.heap.size w w' ∧ ((k = 0 ∧ ∃ v, e = .returned v ∧ A w.heap.size v w') ∨ (k ≠ 0 ∧ e = .panicked [rfs k]))
/-- What is said of a value made above a bound stays said. -/
structure Lasts (A : Nat → Value → World → Prop) : Prop where
  mono : ∀ {B B' v w}, B ≤ B' → A B' v w → A B v w
  set : ∀ {B v w b u}, b < B → A B v w → A B v (World.setCell w ⟨b, 0, none⟩ u)
def Doors (w : World) (k : Nat) (z : Value) (A : Nat → Value → World → Prop) (e : Ending) (w' : World) : Prop :=
  Below w.heap.size w w' ∧ ∃ v, e = .returned (.tuple #[v, .int .i64 k]) ∧ ((k = 0 ∧ A w.heap.size v w') ∨ (k ≠ 0 ∧ v = z))
def Shares (w : World) (k : Nat) (z : Value) (A : Nat → Value → World → Prop) (e : Ending) (w' : World) : Prop :=
  Below w.heap.size w w' ∧ ∃ v, e = .returned (.tuple #[v, .bool (k == 0)]) ∧ ((k = 0 ∧ A w.heap.size v w') ∨ (k ≠ 0 ∧ v = z))
theorem setGrown (w : World) (b : Nat) (u : Value) : w.grownBy (w.setCell ⟨b, 0, none⟩ u) (some b) :=
  ⟨rfl, rfl, rfl, Nat.le_of_eq (by simp), fun k _ hne => heap_setCell_other w ⟨b, 0, none⟩ k u (fun e => hne (by rw [e]))⟩
theorem lasts_int (k : Int) : Lasts (fun _ v _ => v = .int .i64 k) := ⟨fun _ h => h, fun _ h => h⟩
theorem lasts_own (l : List Int) : Lasts (fun B v w => Own w B v l) :=
  ⟨fun h o => o.mono h, fun h o => o.grown (setGrown _ _ _) (fun k hk => by have := (o.lt k hk).1; simp; omega)⟩
end
section
open Go.RowKit

theorem isRefusal (v : Value) (w : World) : (Instr.typeAssert (.iface 96 v) 20 96 true).run Try.prog w = .ok (.tuple #[v, .bool true]) w := by kernel_rfl
theorem noRefusal (w : World) : (Instr.typeAssert .nilIface 20 96 true).run Try.prog w = .ok (.tuple #[.int .i64 0, .bool false]) w := by kernel_rfl

theorem catchI (p : Addr) (k : Nat) (older : List PanicEntry) (w : World) (hz : w.frozen? p = false) (hc : w.cell? p = some (.int .i64 1)) :
    CallsD Try.prog 96 #[.pointer (some p)] (.panicking (rfs k :: older)) w fun e u' w' =>
      e = .returned (.tuple #[]) ∧ u' = .panicking ({ rfs k with recovered := true } :: older) ∧ w' = w.setCell p (.int .i64 k) := by
  have hta := isRefusal (.int .i64 (k : Int))
  refine callsD_of_wpS Try.func96 rfl fun c₀ cs hu => ?_
  apply wpS_seq
  apply wpS_region
  simp [wpOpsS, go_sem, recoverD, hu, Try.ntmps96, Exit.thenS, rfs, hta]
  apply wpS_seq
  apply wpS_region
  simp [wpOpsS, go_sem, Exit.thenS]
  refine wpS_cond (t := true) (by simp [Act.eval, Array.replicate]) ?_
  simp only [if_true]
  apply wpS_region
  simp [wpOpsS, go_sem, hc, hz, bodyPostS, results, Try.results96]

theorem idleI (p : Addr) (w : World) :
    CallsD Try.prog 96 #[.pointer (some p)] .returning w fun e u' w' => e = .returned (.tuple #[]) ∧ u' = .returning ∧ w' = w := by
  have hta := noRefusal
  refine callsD_of_wpS Try.func96 rfl fun c₀ cs hu => ?_
  apply wpS_seq
  apply wpS_region
  simp [wpOpsS, go_sem, recoverD, hu, Try.ntmps96, Exit.thenS, hta]
  apply wpS_seq
  apply wpS_region
  simp [wpOpsS, go_sem, Exit.thenS]
  refine wpS_cond (t := false) (by simp [Act.eval, Array.replicate]) ?_
  simp only [Bool.false_eq_true, if_false]
  refine wpS_of_wp (wp_skip ?_)
  cases c₀
  simp_all [bodyPostS, results, Try.results96]

set_option maxHeartbeats 1000000 in
theorem doorI (fn : FuncId) (cap : Array Value) (hfn : ∀ w, (callFunc fn cap).run Try.prog w = .ok (.enter fn cap) w) (k : Nat) (A : Nat → Value → World → Prop) (hA : Lasts A) (w : World)
    (h : ∀ w1, Below w.heap.size w w1 → Calls Try.prog fn cap w1 (Tries w1 k A)) : Calls Try.prog 87 #[.func (.func fn) #[] cap] w (Doors w k (.int .i64 0) A) := by
  have hmf : ∀ (fn : Fn) (first cap : Array Value) (w : World), (Instr.makeFunc fn first cap).run Try.prog w = .ok (.func fn first cap) w := fun _ _ _ _ => rfl
  have H := Lib.hid h
  have HA := Lib.hid hA
  have HFN := Lib.hid hfn
  clear h hA hfn
  go_enter_defers Try.func87, Try.ntmps87
  have hcf := HFN.out
  go_wp2_with fail
  have hB0 : Below w.heap.size w (w.alloc (.cells #[.int .i64 1] 96)) := belowa (Below.refl _ _) _
  refine (H.out _ hB0).mono ?_
  rintro e w1 ⟨hb, ⟨rfl, v, rfl, ha⟩ | ⟨hk, rfl⟩⟩
  · have HB1 := Lib.hid (joins hB0 hb)
    have hc1 := keepc hb (show (w.alloc (.cells #[.int .i64 1] 96)).cell? ⟨w.heap.size, 0, none⟩ = some (.int .i64 1) by simp [go_sem])
    have hz1 : w1.frozen? ⟨w.heap.size, 0, none⟩ = false := by
      rw [hb.frozen (p := ⟨w.heap.size, 0, none⟩) (by simp)]
      simp [go_sem]
    have HS := Lib.hid (HA.out.mono (show w.heap.size ≤ (w.alloc (.cells #[.int .i64 1] 96)).heap.size by simp) (HA.out.set (b := w.heap.size) (u := .int .i64 0) (by simp) ha))
    clear ha hb hB0
    go_wp2_with fail
    refine leaves_cons (f := 96) (args := #[.pointer (some ⟨w.heap.size, 0, none⟩)]) (by simp) (by simp [go_sem]) ?_
    refine (idleI ⟨w.heap.size, 0, none⟩ _).mono ?_
    rintro e u' w'' ⟨rfl, rfl, rfl⟩
    have hc2 : (w1.setCell ⟨w.heap.size, 0, none⟩ (.int .i64 0)).cell? ⟨w.heap.size, 0, none⟩ = some (.int .i64 0) := World.cell?_setCell_same _ _ _ hc1
    simp [Leaves, settle, results, Try.results87, go_sem, hc2]
    exact ⟨belows HB1.out (Nat.le_refl _) _, _, rfl, Or.inl ⟨rfl, HS.out⟩⟩
  · have HB1 := Lib.hid (joins hB0 hb)
    have hc1 := keepc hb (show (w.alloc (.cells #[.int .i64 1] 96)).cell? ⟨w.heap.size, 0, none⟩ = some (.int .i64 1) by simp [go_sem])
    have hz1 : w1.frozen? ⟨w.heap.size, 0, none⟩ = false := by
      rw [hb.frozen (p := ⟨w.heap.size, 0, none⟩) (by simp)]
      simp [go_sem]
    clear hb hB0
    refine leaves_cons (f := 96) (args := #[.pointer (some ⟨w.heap.size, 0, none⟩)]) (by simp) (by simp [go_sem]) ?_
    refine (catchI ⟨w.heap.size, 0, none⟩ k [] _ hz1 hc1).mono ?_
    rintro e u' w'' ⟨rfl, rfl, rfl⟩
    have hc2 : (w1.setCell ⟨w.heap.size, 0, none⟩ (.int .i64 k)).cell? ⟨w.heap.size, 0, none⟩ = some (.int .i64 k) := World.cell?_setCell_same _ _ _ hc1
    simp [Leaves, settle, results, Try.results87, go_sem, hc2]
    exact ⟨belows HB1.out (Nat.le_refl _) _, _, rfl, Or.inr ⟨hk, rfl⟩⟩

theorem sharedI (fn : FuncId) (cap : Array Value) (hfn : ∀ w, (callFunc fn cap).run Try.prog w = .ok (.enter fn cap) w) (k : Nat) (A : Nat → Value → World → Prop) (hA : Lasts A) (w : World)
    (h : ∀ w1, Below w.heap.size w w1 → Calls Try.prog fn cap w1 (Tries w1 k A)) : Calls Try.prog 72 #[.func (.func fn) #[] cap] w (Shares w k (.int .i64 0) A) := by
  have HD := Lib.hid (doorI fn cap hfn k A hA w h)
  clear hA h
  go_enter Try.func72, Try.ntmps72
  go_wp2_with fail
  refine (HD.out).mono ?_
  rintro e w1 ⟨hb, v, rfl, h⟩
  have HB := Lib.hid hb
  have HH := Lib.hid h
  clear h hb
  go_wp2_with fail
  go_returns
  refine ⟨HB.out, v, ?_, HH.out⟩
  show Ending.returned (.tuple #[v, .bool ((k : Int) == 0)]) = _
  rw [show ((k : Int) == 0) = (k == 0) from by rw [Bool.eq_iff_iff]; simp]

theorem catchQ (p : Addr) (k : Nat) (older : List PanicEntry) (w : World) (hz : w.frozen? p = false) (hc : w.cell? p = some (.int .i64 1)) :
    CallsD Try.prog 93 #[.pointer (some p)] (.panicking (rfs k :: older)) w fun e u' w' =>
      e = .returned (.tuple #[]) ∧ u' = .panicking ({ rfs k with recovered := true } :: older) ∧ w' = w.setCell p (.int .i64 k) := by
  have hta := isRefusal (.int .i64 (k : Int))
  refine callsD_of_wpS Try.func93 rfl fun c₀ cs hu => ?_
  apply wpS_seq
  apply wpS_region
  simp [wpOpsS, go_sem, recoverD, hu, Try.ntmps93, Exit.thenS, rfs, hta]
  apply wpS_seq
  apply wpS_region
  simp [wpOpsS, go_sem, Exit.thenS]
  refine wpS_cond (t := true) (by simp [Act.eval, Array.replicate]) ?_
  simp only [if_true]
  apply wpS_region
  simp [wpOpsS, go_sem, hc, hz, bodyPostS, results, Try.results93]

theorem idleQ (p : Addr) (w : World) :
    CallsD Try.prog 93 #[.pointer (some p)] .returning w fun e u' w' => e = .returned (.tuple #[]) ∧ u' = .returning ∧ w' = w := by
  have hta := noRefusal
  refine callsD_of_wpS Try.func93 rfl fun c₀ cs hu => ?_
  apply wpS_seq
  apply wpS_region
  simp [wpOpsS, go_sem, recoverD, hu, Try.ntmps93, Exit.thenS, hta]
  apply wpS_seq
  apply wpS_region
  simp [wpOpsS, go_sem, Exit.thenS]
  refine wpS_cond (t := false) (by simp [Act.eval, Array.replicate]) ?_
  simp only [Bool.false_eq_true, if_false]
  refine wpS_of_wp (wp_skip ?_)
  cases c₀
  simp_all [bodyPostS, results, Try.results93]

set_option maxHeartbeats 1000000 in
theorem doorQ (fn : FuncId) (cap : Array Value) (hfn : ∀ w, (callFunc fn cap).run Try.prog w = .ok (.enter fn cap) w) (k : Nat) (A : Nat → Value → World → Prop) (hA : Lasts A) (w : World)
    (h : ∀ w1, Below w.heap.size w w1 → Calls Try.prog fn cap w1 (Tries w1 k A)) : Calls Try.prog 81 #[.func (.func fn) #[] cap] w (Doors w k (.slice none 0 0) A) := by
  have hmf : ∀ (fn : Fn) (first cap : Array Value) (w : World), (Instr.makeFunc fn first cap).run Try.prog w = .ok (.func fn first cap) w := fun _ _ _ _ => rfl
  have H := Lib.hid h
  have HA := Lib.hid hA
  have HFN := Lib.hid hfn
  clear h hA hfn
  go_enter_defers Try.func81, Try.ntmps81
  have hcf := HFN.out
  go_wp2_with fail
  have hB0 : Below w.heap.size w (w.alloc (.cells #[.int .i64 1] 96)) := belowa (Below.refl _ _) _
  refine (H.out _ hB0).mono ?_
  rintro e w1 ⟨hb, ⟨rfl, v, rfl, ha⟩ | ⟨hk, rfl⟩⟩
  · have HB1 := Lib.hid (joins hB0 hb)
    have hc1 := keepc hb (show (w.alloc (.cells #[.int .i64 1] 96)).cell? ⟨w.heap.size, 0, none⟩ = some (.int .i64 1) by simp [go_sem])
    have hz1 : w1.frozen? ⟨w.heap.size, 0, none⟩ = false := by
      rw [hb.frozen (p := ⟨w.heap.size, 0, none⟩) (by simp)]
      simp [go_sem]
    have HS := Lib.hid (HA.out.mono (show w.heap.size ≤ (w.alloc (.cells #[.int .i64 1] 96)).heap.size by simp) (HA.out.set (b := w.heap.size) (u := .int .i64 0) (by simp) ha))
    clear ha hb hB0
    go_wp2_with fail
    refine leaves_cons (f := 93) (args := #[.pointer (some ⟨w.heap.size, 0, none⟩)]) (by simp) (by simp [go_sem]) ?_
    refine (idleQ ⟨w.heap.size, 0, none⟩ _).mono ?_
    rintro e u' w'' ⟨rfl, rfl, rfl⟩
    have hc2 : (w1.setCell ⟨w.heap.size, 0, none⟩ (.int .i64 0)).cell? ⟨w.heap.size, 0, none⟩ = some (.int .i64 0) := World.cell?_setCell_same _ _ _ hc1
    simp [Leaves, settle, results, Try.results81, go_sem, hc2]
    exact ⟨belows HB1.out (Nat.le_refl _) _, _, rfl, Or.inl ⟨rfl, HS.out⟩⟩
  · have HB1 := Lib.hid (joins hB0 hb)
    have hc1 := keepc hb (show (w.alloc (.cells #[.int .i64 1] 96)).cell? ⟨w.heap.size, 0, none⟩ = some (.int .i64 1) by simp [go_sem])
    have hz1 : w1.frozen? ⟨w.heap.size, 0, none⟩ = false := by
      rw [hb.frozen (p := ⟨w.heap.size, 0, none⟩) (by simp)]
      simp [go_sem]
    clear hb hB0
    refine leaves_cons (f := 93) (args := #[.pointer (some ⟨w.heap.size, 0, none⟩)]) (by simp) (by simp [go_sem]) ?_
    refine (catchQ ⟨w.heap.size, 0, none⟩ k [] _ hz1 hc1).mono ?_
    rintro e u' w'' ⟨rfl, rfl, rfl⟩
    have hc2 : (w1.setCell ⟨w.heap.size, 0, none⟩ (.int .i64 k)).cell? ⟨w.heap.size, 0, none⟩ = some (.int .i64 k) := World.cell?_setCell_same _ _ _ hc1
    simp [Leaves, settle, results, Try.results81, go_sem, hc2]
    exact ⟨belows HB1.out (Nat.le_refl _) _, _, rfl, Or.inr ⟨hk, rfl⟩⟩

theorem sharedQ (fn : FuncId) (cap : Array Value) (hfn : ∀ w, (callFunc fn cap).run Try.prog w = .ok (.enter fn cap) w) (k : Nat) (A : Nat → Value → World → Prop) (hA : Lasts A) (w : World)
    (h : ∀ w1, Below w.heap.size w w1 → Calls Try.prog fn cap w1 (Tries w1 k A)) : Calls Try.prog 50 #[.func (.func fn) #[] cap] w (Shares w k (.slice none 0 0) A) := by
  have HD := Lib.hid (doorQ fn cap hfn k A hA w h)
  clear hA h
  go_enter Try.func50, Try.ntmps50
  go_wp2_with fail
  refine (HD.out).mono ?_
  rintro e w1 ⟨hb, v, rfl, h⟩
  have HB := Lib.hid hb
  have HH := Lib.hid h
  clear h hb
  go_wp2_with fail
  go_returns
  refine ⟨HB.out, v, ?_, HH.out⟩
  show Ending.returned (.tuple #[v, .bool ((k : Int) == 0)]) = _
  rw [show ((k : Int) == 0) = (k == 0) from by rw [Bool.eq_iff_iff]; simp]

end
end
section
open Go.RowKit

theorem isRefusalG (v : Value) (w : World) : (Instr.typeAssert (.iface 96 v) 20 96 true).run Try.prog w = .ok (.tuple #[v, .bool true]) w := by kernel_rfl
theorem noRefusalG (w : World) : (Instr.typeAssert .nilIface 20 96 true).run Try.prog w = .ok (.tuple #[.int .i64 0, .bool false]) w := by kernel_rfl

theorem catchG (p : Addr) (k : Nat) (older : List PanicEntry) (w : World) (hz : w.frozen? p = false) (hc : w.cell? p = some (.int .i64 1)) :
    CallsD Try.prog 89 #[.pointer (some p)] (.panicking (rfs k :: older)) w fun e u' w' =>
      e = .returned (.tuple #[]) ∧ u' = .panicking ({ rfs k with recovered := true } :: older) ∧ w' = w.setCell p (.int .i64 k) := by
  have hta := isRefusalG (.int .i64 (k : Int))
  refine callsD_of_wpS Try.func89 rfl fun c₀ cs hu => ?_
  apply wpS_seq
  apply wpS_region
  simp [wpOpsS, go_sem, recoverD, hu, Try.ntmps89, Exit.thenS, rfs, hta]
  apply wpS_seq
  apply wpS_region
  simp [wpOpsS, go_sem, Exit.thenS]
  refine wpS_cond (t := true) (by simp [Act.eval, Array.replicate]) ?_
  simp only [if_true]
  apply wpS_region
  simp [wpOpsS, go_sem, hc, hz, bodyPostS, results, Try.results89]

theorem idleG (p : Addr) (w : World) :
    CallsD Try.prog 89 #[.pointer (some p)] .returning w fun e u' w' => e = .returned (.tuple #[]) ∧ u' = .returning ∧ w' = w := by
  have hta := noRefusalG
  refine callsD_of_wpS Try.func89 rfl fun c₀ cs hu => ?_
  apply wpS_seq
  apply wpS_region
  simp [wpOpsS, go_sem, recoverD, hu, Try.ntmps89, Exit.thenS, hta]
  apply wpS_seq
  apply wpS_region
  simp [wpOpsS, go_sem, Exit.thenS]
  refine wpS_cond (t := false) (by simp [Act.eval, Array.replicate]) ?_
  simp only [Bool.false_eq_true, if_false]
  refine wpS_of_wp (wp_skip ?_)
  cases c₀
  simp_all [bodyPostS, results, Try.results89]

set_option maxRecDepth 100000 in
set_option maxHeartbeats 1000000 in
theorem doorG (fn : FuncId) (cap : Array Value) (hfn : ∀ w, (callFunc fn cap).run Try.prog w = .ok (.enter fn cap) w) (k : Nat) (X Y : Int) (hz : k ≠ 0 → X = 0 ∧ Y = 0) (w : World)
    (h : ∀ w1, Below w.heap.size w w1 → Calls Try.prog fn cap w1 (Tries w1 k (fun _ v _ => v = .agg #[.int .i64 X, .int .i64 Y]))) : Calls Try.prog 76 #[.func (.func fn) #[] cap] w (Ret w (.tuple #[.agg #[.int .i64 X, .int .i64 Y], .int .i64 k])) := by
  have hmf : ∀ (fn : Fn) (first cap : Array Value) (w : World), (Instr.makeFunc fn first cap).run Try.prog w = .ok (.func fn first cap) w := fun _ _ _ _ => rfl
  have H := Lib.hid h
  have HFN := Lib.hid hfn
  have HZ := Lib.hid hz
  clear h hfn hz
  have hB0 : Below w.heap.size w ((w.alloc (.cells #[.int .i64 0, .int .i64 0] 26)).alloc (.cells #[.int .i64 1] 96)) := belowa (belowa (Below.refl _ _) _) _
  go_enter_defers Try.func76, Try.ntmps76
  have hcf := HFN.out
  go_wp2_with fail
  have h0 : ((w.alloc (.cells #[.int .i64 0, .int .i64 0] 26)).alloc (.cells #[.int .i64 1] 96)).cell? ⟨w.heap.size, 0, none⟩ = some (.int .i64 0) := keepa _ (cell_new0 _ _ _ _)
  have h1 : ((w.alloc (.cells #[.int .i64 0, .int .i64 0] 26)).alloc (.cells #[.int .i64 1] 96)).cell? ⟨w.heap.size, 1, none⟩ = some (.int .i64 0) := keepa _ (cell_new1 _ _ _ _)
  have h2 : ((w.alloc (.cells #[.int .i64 0, .int .i64 0] 26)).alloc (.cells #[.int .i64 1] 96)).cell? ⟨w.heap.size + 1, 0, none⟩ = some (.int .i64 1) := by simp [go_sem]
  have k0 : ((w.alloc (.cells #[.int .i64 0, .int .i64 0] 26)).alloc (.cells #[.int .i64 1] 96)).frozen? ⟨w.heap.size, 0, none⟩ = false := by simp [go_sem]
  have k1 : ((w.alloc (.cells #[.int .i64 0, .int .i64 0] 26)).alloc (.cells #[.int .i64 1] 96)).frozen? ⟨w.heap.size, 1, none⟩ = false := by simp [go_sem]
  have k2 : ((w.alloc (.cells #[.int .i64 0, .int .i64 0] 26)).alloc (.cells #[.int .i64 1] 96)).frozen? ⟨w.heap.size + 1, 0, none⟩ = false := by simp [go_sem]
  have hsz : ((w.alloc (.cells #[.int .i64 0, .int .i64 0] 26)).alloc (.cells #[.int .i64 1] 96)).heap.size = w.heap.size + 2 := by simp
  obtain ⟨W0, hW⟩ : ∃ W, W = (w.alloc (.cells #[.int .i64 0, .int .i64 0] 26)).alloc (.cells #[.int .i64 1] 96) := ⟨_, rfl⟩
  rw [← hW] at h0 h1 h2 k0 k1 k2 hsz hB0 ⊢
  clear hW
  refine (H.out _ hB0).mono ?_
  rintro e w1 ⟨hb, ⟨rfl, v, rfl, rfl⟩ | ⟨hk, rfl⟩⟩
  · have c0 := keepc hb h0
    have c1 := keepc hb h1
    have c2 := keepc hb h2
    have f0 := (hb.frozen (p := ⟨w.heap.size, 0, none⟩) (by rw [hsz]; simp)).trans k0
    have f1 := (hb.frozen (p := ⟨w.heap.size, 1, none⟩) (by rw [hsz]; simp)).trans k1
    have f2 := (hb.frozen (p := ⟨w.heap.size + 1, 0, none⟩) (by rw [hsz]; simp)).trans k2
    have HB1 := Lib.hid (joins hB0 hb)
    clear hb h0 h1 h2 k0 k1 k2 hsz hB0
    have e0 : (w1.setCell ⟨w.heap.size, 0, none⟩ (.int .i64 X)).cell? ⟨w.heap.size, 0, none⟩ = some (.int .i64 X) := World.cell?_setCell_same _ _ _ c0
    have e1 : ((w1.setCell ⟨w.heap.size, 0, none⟩ (.int .i64 X)).setCell ⟨w.heap.size, 1, none⟩ (.int .i64 Y)).cell? ⟨w.heap.size, 1, none⟩ = some (.int .i64 Y) := World.cell?_setCell_same _ _ _ ((World.cell?_setCell_other _ _ _ _ (by simp)).trans c1)
    obtain ⟨w3, hw3⟩ : ∃ w3, w3 = ((((w1.setCell ⟨w.heap.size, 0, none⟩ (.int .i64 X)).setCell ⟨w.heap.size, 1, none⟩ (.int .i64 Y)).setCell ⟨w.heap.size, 0, none⟩ (.int .i64 X)).setCell ⟨w.heap.size, 1, none⟩ (.int .i64 Y)).setCell ⟨w.heap.size + 1, 0, none⟩ (.int .i64 0) := ⟨_, rfl⟩
    have E0 := Lib.hid (show w3.cell? ⟨w.heap.size, 0, none⟩ = some (.int .i64 X) from by
      rw [hw3]
      exact keeps ((World.cell?_setCell_other _ _ _ _ (by simp)).trans (World.cell?_setCell_same _ _ _ ((World.cell?_setCell_other _ _ _ _ (by simp)).trans e0))) (by simp))
    have E1 := Lib.hid (show w3.cell? ⟨w.heap.size, 1, none⟩ = some (.int .i64 Y) from by
      rw [hw3]
      exact keeps (World.cell?_setCell_same _ _ _ ((World.cell?_setCell_other _ _ _ _ (by simp)).trans e1)) (by simp))
    have E2 := Lib.hid (show w3.cell? ⟨w.heap.size + 1, 0, none⟩ = some (.int .i64 0) from by
      rw [hw3]
      exact World.cell?_setCell_same _ _ _ (keeps (keeps (keeps (keeps c2 (by simp)) (by simp)) (by simp)) (by simp)))
    have B3 := Lib.hid (show Below w.heap.size w w3 from by
      rw [hw3]
      exact belows (belows (belows (belows (belows HB1.out (Nat.le_refl _) _) (Nat.le_refl _) _) (Nat.le_refl _) _) (Nat.le_refl _) _) (Nat.le_succ _) _)
    go_wp2_with fail
    rw [← hw3]
    clear hw3 e0 e1 c0 c1 c2 f0 f1 f2
    refine leaves_cons (f := 89) (args := #[.pointer (some ⟨w.heap.size + 1, 0, none⟩)]) (by simp) (by simp [go_sem]) ?_
    refine (idleG ⟨w.heap.size + 1, 0, none⟩ _).mono ?_
    rintro e u' w'' ⟨rfl, rfl, rfl⟩
    have e0 := E0.out
    have e1 := E1.out
    have e2 := E2.out
    simp [Leaves, settle, results, Try.results76, go_sem, e0, e1, e2]
    exact ⟨rfl, B3.out⟩
  · obtain ⟨rfl, rfl⟩ := HZ.out hk
    have c0 := keepc hb h0
    have c1 := keepc hb h1
    have c2 := keepc hb h2
    have f2 := (hb.frozen (p := ⟨w.heap.size + 1, 0, none⟩) (by rw [hsz]; simp)).trans k2
    have HB1 := Lib.hid (joins hB0 hb)
    clear hb h0 h1 h2 k0 k1 k2 hsz hB0
    refine leaves_cons (f := 89) (args := #[.pointer (some ⟨w.heap.size + 1, 0, none⟩)]) (by simp) (by simp [go_sem]) ?_
    refine (catchG ⟨w.heap.size + 1, 0, none⟩ k [] _ f2 c2).mono ?_
    rintro e u' w'' ⟨rfl, rfl, rfl⟩
    have e2 : (w1.setCell ⟨w.heap.size + 1, 0, none⟩ (.int .i64 k)).cell? ⟨w.heap.size + 1, 0, none⟩ = some (.int .i64 k) := World.cell?_setCell_same _ _ _ c2
    simp [Leaves, settle, results, Try.results76, go_sem, e2, c0, c1]
    exact ⟨rfl, belows HB1.out (Nat.le_succ _) _⟩

set_option maxRecDepth 100000 in
set_option maxHeartbeats 1000000 in
theorem sharedG (fn : FuncId) (cap : Array Value) (hfn : ∀ w, (callFunc fn cap).run Try.prog w = .ok (.enter fn cap) w) (k : Nat) (X Y : Int) (hz : k ≠ 0 → X = 0 ∧ Y = 0) (w : World)
    (h : ∀ w1, Below w.heap.size w w1 → Calls Try.prog fn cap w1 (Tries w1 k (fun _ v _ => v = .agg #[.int .i64 X, .int .i64 Y]))) : Calls Try.prog 39 #[.func (.func fn) #[] cap] w (Ret w (.tuple #[.agg #[.int .i64 X, .int .i64 Y], .bool (k == 0)])) := by
  have hz0 := ZG.start w 26
  have HB0 := Lib.hid (show Below w.heap.size w (w.alloc (.cells #[.int .i64 0, .int .i64 0] 26)) from belowa (Below.refl _ _) _)
  have HD := Lib.hid (fun (w1 : World) (hb : Below w.heap.size w w1) => doorG fn cap hfn k X Y hz w1 (fun w2 hb2 => h w2 (hb.trans (hb2.mono hb.size))))
  have HZ := Lib.hid hz0
  clear h hz hz0
  go_enter Try.func39, Try.ntmps39
  go_wp2_with fail
  refine (HD.out _ HB0.out).mono ?_
  rintro e w1 ⟨rfl, hb⟩
  have hz1 := HZ.out.step hb
  have HR := Lib.hid hz1
  obtain ⟨z1, z2, z3, z4, z5, z6⟩ := hz1
  have h6 : ¬ w1.heap.size = w.heap.size := by omega
  have h7 : ¬ w.heap.size = w1.heap.size := by omega
  clear hb
  go_wp2_with fail
  (try simp only [Exit.inBlock, Exit.then])
  obtain ⟨d0, d2, d3⟩ := HR.out.ret (.int .i64 X) (.int .i64 Y)
  have d0' := keepa (.cells #[.int .i64 X, .int .i64 Y] 26) ((World.cell?_setCell_other (w1.setCell ⟨w.heap.size, 0, none⟩ (.int .i64 X)) ⟨w.heap.size, 1, none⟩ ⟨w.heap.size, 0, none⟩ (.int .i64 Y) (by simp)).trans d0)
  have d2' := keepa (.cells #[.int .i64 X, .int .i64 Y] 26) d2
  refine bodyPost_ret (v := .tuple #[.agg #[.int .i64 X, .int .i64 Y], .bool (k == 0)]) (by
    have hk : ((k : Int) == 0) = (k == 0) := by rw [Bool.eq_iff_iff]; simp
    simp [results, Try.results39, go_sem, d0', d2', hk]; try rfl) rfl ?_
  exact ⟨rfl, belowa d3 _⟩
end
end Go.Proofs.Ytapmehgdnofgnab
