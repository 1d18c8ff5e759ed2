/- The model's numerals: l1Num. -/
import Derived.Test.YtgjdaeaiheibbabDoorRows
import Derived.Test.YtgjdaeaiheibbabDoorKit
import Derived.Lib.ItoaNum
import Derived.Lib.ItoaLen
import Derived.Laws.Closers25
import Derived.Laws.IdiomStrings
import Derived.Laws.Concat
namespace Go.Proofs.YtgjdaeaiheibbabDoor
set_option maxRecDepth 100000
open Go.RowKit

def dig (d : Nat) : UInt8 := UInt8.ofNat (48 + d)
def numB (u : Nat) : ByteArray := ⟨(Lib.decDigits u).toArray⟩

theorem digit_nat (d : Nat) (h : d < 10) : ((dig d).toNat : Int) = 48 + (d : Int) := by
  unfold dig
  rw [UInt8.toNat_ofNat']
  omega
theorem conv1 (W : World) (g : Nat) (d : Nat) (h : d < 10) (hc : W.cell? ⟨g, 0, none⟩ = some (.int .u8 (48 + (d : Int)))) : (convert 22 9 (.slice (some ⟨g, 0, none⟩) 1 1)).run Tryd.prog W = .ok (.string ⟨#[dig d]⟩) W :=
  run_convert_bytes_back (P := Tryd.prog) W 22 9 5 ⟨g, 0, none⟩ 1 [dig d] Tryd.underlying22 Tryd.underlying5 Tryd.underlying9 (by
    intro j hj
    simp only [List.length_singleton] at hj
    obtain rfl : j = 0 := by omega
    rw [Addr.add_lit, Nat.zero_add, hc]
    simp only [List.getElem_singleton]
    rw [digit_nat d h])
theorem num_small {u : Nat} (h : u < 10) : numB u = ⟨#[dig u]⟩ := by
  unfold numB
  rw [Lib.decDigits, dif_pos h]
  rfl

theorem num_big {u : Nat} (h : ¬ u < 10) : numB u = numB (u / 10) ++ ⟨#[dig (u % 10)]⟩ := by
  unfold numB
  rw [Lib.decDigits, dif_neg h]
  exact (ByteArray.mk_append_mk _ [dig (u % 10)]).symm
theorem num_size (u : Nat) (h : u ≤ 1000000000) : (numB u).size ≤ 20 := by
  have := Lib.nDigits_le20 u (by omega)
  show (Lib.decDigits u).toArray.size ≤ 20
  rw [List.size_toArray, Lib.decDigits_length]
  exact this

set_option maxHeartbeats 1000000 in
theorem l1Num_any (u : Nat) : u ≤ 1000000000 → ∀ w : World, Calls Tryd.prog 46 #[.int .i64 u] w (Ret w (.string (numB u))) := by
  induction u using Nat.strongRecOn with
  | _ u ih =>
    intro hu w
    by_cases h : u < 10
    · have h2 : (u : Int) < 10 := by omega
      have h3 : (0 : Int) ≤ u := by omega
      clear ih
      go_enter Tryd.func46, Tryd.ntmps46
      have hconv := conv1 (w.alloc (.cells #[.int .u8 (48 + (u : Int))] 5)) w.heap.size u h (by simp [go_sem])
      rw [num_small h]
      go_wp2_with fail
      go_returns
      exact ⟨rfl, by go_grown⟩
    · have h2 : ¬ (u : Int) < 10 := by omega
      have h3 : (0 : Int) ≤ u := by omega
      rw [num_big h]
      have HS := num_size (u / 10) (by omega)
      obtain ⟨q, hq⟩ : ∃ q, q = u / 10 := ⟨_, rfl⟩
      obtain ⟨d, hd⟩ : ∃ d, d = u % 10 := ⟨_, rfl⟩
      have hi := ih (u / 10) (by omega) (by omega)
      have hd10 : d < 10 := by omega
      have e1 : IntKind.i64.wrap ((u : Int) / 10) = (q : Int) := by rw [wrap_i64_ediv _ _ (by omega) (by omega) (by omega)]; omega
      have e2 : (u : Int).tmod 10 = (d : Int) := by rw [Int.tmod_eq_emod_of_nonneg h3]; omega
      rw [← hq, ← hd]
      rw [← hq] at hi HS
      obtain ⟨s, hs⟩ : ∃ s, s = numB q := ⟨_, rfl⟩
      rw [← hs] at hi HS ⊢
      have hadd : ∀ w, (Op.stringOp .add s ⟨#[dig d]⟩).run Tryd.prog w = .ok (.string (s ++ ⟨#[dig d]⟩)) w := fun w => run_string_add w s ⟨#[dig d]⟩ (by omega) (by rw [show (ByteArray.mk #[dig d]).size = 1 from rfl]; omega)
      have hconv : ∀ W : World, (convert 22 9 (.slice (some ⟨W.heap.size, 0, none⟩) 1 1)).run Tryd.prog (W.alloc (.cells #[.int .u8 (48 + (d : Int))] 5)) = .ok (.string ⟨#[dig d]⟩) (W.alloc (.cells #[.int .u8 (48 + (d : Int))] 5)) := fun W => conv1 _ _ d hd10 (by rw [World.cell?_alloc_new]; rfl)
      have hconvd : ∀ W : World, (convert 22 9 (.slice (some ⟨W.heap.size, 0, none⟩) 1 1)).run Tryd.prog (W.alloc (.cells #[.int .u8 (48 + (d : Int))] 5)).drew = .ok (.string ⟨#[dig d]⟩) (W.alloc (.cells #[.int .u8 (48 + (d : Int))] 5)).drew := fun W => conv1 _ _ d hd10 (show (W.alloc (.cells #[.int .u8 (48 + (d : Int))] 5)).cell? _ = _ by rw [World.cell?_alloc_new]; rfl)
      have hnew : (w.alloc (.cells #[.int .u8 (48 + (d : Int))] 5)).drew.cell? ⟨w.heap.size, 0, none⟩ = some (.int .u8 (48 + (d : Int))) := show (w.alloc (.cells #[.int .u8 (48 + (d : Int))] 5)).cell? _ = _ by rw [World.cell?_alloc_new]; rfl
      have HN := Lib.hid hnew
      have HC := Lib.hid (fun (W : World) (h : W.cell? ⟨w.heap.size, 0, none⟩ = some (.int .u8 (48 + (d : Int)))) => conv1 W w.heap.size d hd10 h)
      have hd0 : (0 : Int) ≤ (d : Int) := by omega
      have hd1 : (d : Int) < 10 := by omega
      have e3 : IntKind.i64.wrap (48 + (d : Int)) = 48 + (d : Int) := by rw [IntKind.wrap_i64]; omega
      have e4 : IntKind.u8.wrap (48 + (d : Int)) = 48 + (d : Int) := by rw [IntKind.wrap_u8]; omega
      have HI := Lib.hid hi
      clear ih hi hq hd hs HS hnew
      go_enter Tryd.func46, Tryd.ntmps46
      go_wp2_with fail
      go_region_with (go_at_call 46; refine (HI.out _).mono ?_; rintro e w' ⟨rfl, hb⟩; (try (have hcc := HC.out _ (keepc hb HN.out))))
      all_goals
        go_wp2_with fail
        go_returns
        first
          | exact ⟨rfl, belowa (joins (Below.refl _ _).drew hb) _⟩
          | exact ⟨rfl, joins (belowa (Below.refl _ _).drew _) hb⟩
end Go.Proofs.YtgjdaeaiheibbabDoor
