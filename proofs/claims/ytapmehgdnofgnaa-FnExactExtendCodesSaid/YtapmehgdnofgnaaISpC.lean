/- The program's AreCodes. -/
import Derived.Test.YtapmehgdnofgnaaICode
import Derived.Test.YtapmehgdnofgnaaDo
namespace Go.Proofs.Ytapmehgdnofgnaa
set_option maxRecDepth 100000
open Go.RowKit

theorem box_one {w w' : World} {v : Value} {T : TypeId} (hb : Below (w.alloc (.cells #[v] T)).heap.size (w.alloc (.cells #[v] T)) w') : w'.cell? ⟨w.heap.size, 0, none⟩ = some v :=
  keepc hb (by simp [go_sem])
set_option maxHeartbeats 1000000 in
theorem areCodes1_any (v : Value) (m : List (List Int)) (p : Addr) (w : World) (hp : w.cell? p = some v) (hv : IR w v m) (hlen : sz2 m ≤ 1048576) :
    Calls Try.prog 36 #[.pointer (some p)] w (Tries w (kOf (cdsOk m)) (CodesAt m)) := by
  have HC := Lib.hid (codesFrom_any v m w hv hlen)
  obtain ⟨a, cap, rfl⟩ := hv.slice
  clear hv
  go_enter Try.func36, Try.ntmps36
  go_wp2_with fail
  refine (HC.out).mono ?_
  rintro e w1 ⟨hb, ⟨hk, v, rfl, h⟩ | ⟨hk, rfl⟩⟩
  · go_wp2_with fail
    go_returns
    exact ⟨hb, Or.inl ⟨hk, _, rfl, h⟩⟩
  · exact ⟨rfl, hb, Or.inr ⟨hk, rfl⟩⟩
theorem iAreCodes (v : Value) (m : List (List Int)) (w : World) (hv : IR w v m) (hlen : sz2 m ≤ 1048576) : Calls Try.prog 12 #[v] w (Ret w (.bool (cdsOk m))) := by
  have hmf : ∀ (fn : Fn) (first cap : Array Value) (w : World), (Instr.makeFunc fn first cap).run Try.prog w = .ok (.func fn first cap) w := fun _ _ _ _ => rfl
  obtain ⟨a, cap, rfl⟩ := hv.slice
  have HSH := Lib.hid (fun (w1 : World) (hw : w1 = w.alloc (.cells #[.slice a m.length cap] 22)) => sharedP 36 #[.pointer (some ⟨w.heap.size, 0, none⟩)] (fun w => by simp [go_sem]) (kOf (cdsOk m)) (CodesAt m) (lasts_codes m) w1 (fun w2 hb => by
    subst hw
    exact areCodes1_any _ m _ w2 (box_one hb) ((hv.below (belowa (Below.refl _ _) _)).below hb) hlen))
  clear hv
  go_enter Try.func12, Try.ntmps12
  go_wp2_with fail
  refine (HSH.out _ rfl).mono ?_
  rintro e w1 ⟨hb, v, rfl, h⟩
  have HB := Lib.hid (joins (belowa (Below.refl _ _) _) hb)
  rw [kOf_zero]
  clear h
  go_wp2_with fail
  go_returns
  exact ⟨rfl, HB.out⟩
end Go.Proofs.Ytapmehgdnofgnaa
