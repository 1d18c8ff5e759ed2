/- The model's MoveOf. -/
import Derived.Test.YtgibdndckoapfabSPl
import Derived.Test.YtgibdndckoapfabMvM
namespace Go.Proofs.Ytgibdndckoapfab
set_option maxRecDepth 100000
open Go.RowKit

set_option maxRecDepth 100000 in
set_option maxHeartbeats 2000000 in
theorem smoveOf (v : Value) (l : List (Int × Int)) (b : Int) (w : World) (hv : IG w v l) : Calls Try.prog 20 #[v, .int .i64 b] w (MakesGB w (mvA l b) (mvOk l b)) := by
  have HS := Lib.hid (tfSignal_any v l w hv)
  obtain ⟨a, cap, hvs⟩ := hv.slice
  cases hok : tfOk l with
  | false =>
    rw [hok] at HS
    have e1 : mvOk l b = false := by unfold mvOk; rw [hok]; rfl
    have e2 : mvA l b = [] := by unfold mvA; rw [e1]; rfl
    rw [e1, e2]
    clear e1 e2 hok hvs hv
    go_enter Try.func20, Try.ntmps20
    go_wp2_with fail
    refine (HS.out).mono ?_
    rintro e w1 ⟨rfl, hb⟩
    have HB := Lib.hid hb
    clear hb
    go_wp2_with fail
    go_returns
    exact ⟨_, rfl, OwnG.nil _ _, HB.out⟩
  | true =>
    rw [hok] at HS
    have hlen := tfOk_len hok
    have HLT := Lib.hid (fun x y => adP_lt (tfOk_sz hok) x y)
    obtain ⟨n, hn⟩ : ∃ n, n = l.length := ⟨_, rfl⟩
    have HI := Lib.hid (l1In_any b 0 ((n : Int) - 1))
    rcases hv with ⟨rfl, _⟩ | ⟨_, bb, off, cap', rfl, hm, hc⟩
    · simp at hlen
    by_cases hin : 0 ≤ b ∧ b < (n : Int)
    · have e1 : mvOk l b = true := by unfold mvOk; rw [hok, ← hn]; simp [hin]
      have e2 : mvA l b = mvL l b := by unfold mvA; rw [e1]; rfl
      obtain ⟨m, rfl⟩ : ∃ m : Nat, b = m := ⟨b.toNat, by omega⟩
      have hmn : m < n := by omega
      have e4 : mvL l m = genG n (fun x => gre l (adP x m)) (fun x => gim l (adP x m)) := by unfold mvL; rw [hn]; rfl
      rw [show inB (m : Int) 0 ((n : Int) - 1) = true by simp [inB]; omega] at HI
      rw [e1, e2, e4, ← hn]
      rw [← hn] at hc hlen HLT HS
      obtain ⟨X, hX⟩ : ∃ X, X = fun x => gre l (adP x m) := ⟨_, rfl⟩
      obtain ⟨Y, hY⟩ : ∃ X, X = fun x => gim l (adP x m) := ⟨_, rfl⟩
      rw [← hX, ← hY]
      have HC := Lib.hid (fun (w' : World) (hb : Below w.heap.size w w') (i : Nat) (hi : i < n) => show w'.cell? ⟨bb, off + adP i m * 2, none⟩ = some (.int .i64 (X i)) ∧ w'.cell? ⟨bb, off + adP i m * 2 + 1, none⟩ = some (.int .i64 (Y i)) by
        have h := hc (adP i m) (HLT.out i m hi hmn)
        rw [hX, hY]
        exact ⟨keepc hb h.1, keepc hb h.2⟩)
      obtain ⟨hl1, hl2⟩ := hlen
      clear hc hm hn hvs hok e1 e2 e4 hX hY hin
      go_enter Try.func20, Try.ntmps20
      go_wp2_with fail
      refine (HS.out).mono ?_
      rintro e w1 ⟨rfl, hb⟩
      have HB1 := Lib.hid hb
      clear hb
      go_wp2_with fail
      refine (HI.out _).mono ?_
      rintro e w2 ⟨rfl, rfl⟩
      go_wp2_with fail
      go_loopw [21, 6] (fun i o wr => ∃ k : Nat, k ≤ n ∧ i = .int .i64 k ∧ OwnG wr w.heap.size o (genG k X Y) ∧ Below w.heap.size w wr) (fun i _ _ => n - (intOf i).toNat)
      case atStart => exact ⟨0, Nat.zero_le _, rfl, OwnG.nil _ _, HB1.out⟩
      case round =>
        obtain ⟨k, hk, rfl, hown, hbel⟩ := hrel
        have HB := Lib.hid hbel
        have HO := Lib.hid hown
        clear hown hbel
        by_cases hlt : k < n
        · have h0 : (0 : Int) ≤ (k : Int) := by omega
          have h1 : (k : Int) < (n : Int) := by omega
          have HA := Lib.hid (tfAdd_plus k m (by omega) (by omega))
          have ha := HLT.out k m hlt hmn
          obtain ⟨c1, c2⟩ := HC.out wr HB.out k hlt
          have hgs := genG_succ k X Y
          obtain ⟨x, hx⟩ : ∃ x, x = X k := ⟨_, rfl⟩
          obtain ⟨y, hy⟩ : ∃ y, y = Y k := ⟨_, rfl⟩
          obtain ⟨p, hp⟩ : ∃ p, p = adP k m := ⟨_, rfl⟩
          rw [← hx, ← hp] at c1
          rw [← hy, ← hp] at c2
          rw [← hx, ← hy] at hgs
          rw [← hp] at HA ha
          have HGS := Lib.hid hgs
          have hgl : (genG k X Y).length ≤ 1048576 := by rw [genG_length]; omega
          have HGL := Lib.hid hgl
          have hp0 : (0 : Int) ≤ (p : Int) := by omega
          have hp1 : (p : Int) < (n : Int) := by omega
          clear hx hy hp hgs hgl ha
          go_wp2_with fail
          refine (HA.out _).mono ?_
          rintro e w3 ⟨rfl, rfl⟩
          go_wp2_with (at_builtin; refine wpList_pushG rfl _ _ rfl w.heap.size _ (genG k X Y) rfl (HO.out.alloc _) wr.heap.size 1 x y rfl (cell_new0 _ _ _ _) (cell_new1 _ _ _ _) HGL.out w.heap.size w (HB.out.alloc HB.out.size _) (Nat.le_refl _) (by have := HB.out.size; simp; omega) (by have := HB.out.size; simp; omega) ?_; intro v3 w3 ho3 hb3)
          go_roundw
          case rel => exact ⟨k + 1, by omega, by go_num, by rw [HGS.out]; exact ho3, hb3⟩
          case measure => simp [intOf]; omega
        · obtain rfl : k = n := by omega
          go_wp2_with fail
          go_returns
          exact ⟨_, rfl, HO.out, HB.out⟩
    · have e1 : mvOk l b = false := by unfold mvOk; rw [← hn, decide_eq_false hin, Bool.and_false]
      have e2 : mvA l b = [] := by unfold mvA; rw [e1]; rfl
      rw [e1, e2, ← hn]
      rw [← hn] at hlen HS
      rw [show inB b 0 ((n : Int) - 1) = false by simp [inB]; omega] at HI
      obtain ⟨hl1, hl2⟩ := hlen
      clear hc hm hn hvs hok e1 e2 hin
      go_enter Try.func20, Try.ntmps20
      go_wp2_with fail
      refine (HS.out).mono ?_
      rintro e w1 ⟨rfl, hb⟩
      have HB1 := Lib.hid hb
      clear hb
      go_wp2_with fail
      refine (HI.out _).mono ?_
      rintro e w2 ⟨rfl, rfl⟩
      go_wp2_with fail
      go_returns
      exact ⟨_, rfl, OwnG.nil _ _, HB1.out⟩
end Go.Proofs.Ytgibdndckoapfab
