/- slices.Clone of a list of whole numbers. -/
import Derived.Test.YtfjhocmnafdnfaaPhs
import Derived.Test.YtfjhocmnafdnfaaSCr
import Derived.Lib.SliceRun
namespace Go.Proofs.Ytfjhocmnafdnfaa
set_option maxRecDepth 100000
open Go.RowKit

theorem own_empty (w : World) : Own (w.alloc (.cells #[] 3)) w.heap.size (.slice (some ⟨w.heap.size, 0, none⟩) 0 0) [] :=
  ⟨rfl, Or.inr ⟨w.heap.size, 0, #[], rfl, Nat.le_refl _, heap_alloc_new _ _, Nat.le_refl _, Nat.zero_le _, rfl, rfl⟩⟩
set_option maxHeartbeats 1000000 in
theorem clone_any (l : List Int) (v : Value) (w : World) (hl : l.length ≤ 1048576) (hv : IS w v l) : Calls Try.prog 178 #[v] w (Makes w l) := by
  have HV := Lib.hid hv
  have HL := Lib.hid hl
  have HE := Lib.hid (own_empty w)
  have HB := Lib.hid (belowa (Below.refl w.heap.size w) (.cells #[] 3))
  obtain ⟨a, cap, rfl⟩ := hv.slice
  have hn : a = none → l = [] := fun e => by
    rcases hv with ⟨h, _⟩ | ⟨_, b, off, cap', h, _⟩
    · exact h
    · subst e; simp at h
  have q22 : ∀ (w : World) (a : Option Addr) (n c n' c' : Nat), (binOp .eql 24 (.slice a n c) (.slice none n' c')).run Try.prog w = .ok (.bool a.isNone) w := fun w a n c n' c' => Lib.run_eql_slice_nil w _ _ a n c n' c' Try.underlying24
  clear hv hl
  cases a with
  | none =>
    have HN := Lib.hid (hn rfl)
    clear hn
    go_enter Try.func178, Try.ntmps178
    go_wp2_with fail
    go_returns
    exact ⟨_, rfl, by rw [HN.out]; exact World.ownsRow_nil _ _ _ _, Below.refl _ _⟩
  | some a =>
    clear hn
    go_enter Try.func178, Try.ntmps178
    go_wp2_with (at_builtin; refine wpList_pushAll rfl _ _ rfl w.heap.size _ [] rfl HE.out _ l rfl (HV.out.below HB.out) (Nat.zero_le _) HL.out w.heap.size w HB.out (Nat.le_refl _) HB.out.size HB.out.size ?_; intro v3 w3 ho3 hb3; have HO3 := Lib.hid ho3; have HB3 := Lib.hid hb3; clear ho3 hb3)
    go_returns
    exact ⟨_, rfl, HO3.out, HB3.out⟩
end Go.Proofs.Ytfjhocmnafdnfaa
