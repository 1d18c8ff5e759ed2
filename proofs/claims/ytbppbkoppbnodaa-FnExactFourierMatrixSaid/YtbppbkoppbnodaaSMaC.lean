/- The model's ConjugateMatrix, FourierMatrix. -/
import Derived.Test.YtbppbkoppbnodaaSMaO
import Derived.Test.YtbppbkoppbnodaaMaT
import Derived.Test.YtbppbkoppbnodaaSMov
namespace Go.Proofs.Ytbppbkoppbnodaa
set_option maxRecDepth 100000
open Go.RowKit

def cjL (m : List (List Int)) : List (List Int) := genR m.length (fun i => barG (m.getD i []))
def cjA (m : List (List Int)) : List (List Int) := if maOk m then cjL m else []
theorem cjA_tot (m : List (List Int)) : tot (cjA m) ≤ 1048576 := by
  unfold cjA; split
  · rename_i h
    have h1 := tot_genR m.length 8 (fun i => barG (m.getD i [])) (fun i hi => by
      show (barG (m.getD i [])).length ≤ 8
      unfold barG
      rw [gen_length, maOk_sq h i hi]; exact maOk_le h)
    have := maOk_le h
    unfold cjL
    omega
  · simp [tot]
set_option maxRecDepth 100000 in
set_option maxHeartbeats 2000000 in
theorem sconjugateMatrix (v : Value) (m : List (List Int)) (w : World) (hv : IR w v m) : Calls Try.prog 22 #[v] w (MakesRB w (cjA m) (maOk m)) := by
  obtain ⟨a, cap, rfl⟩ := hv.slice
  have HG := Lib.hid (haGood_any _ m w hv)
  have HV := Lib.hid hv
  unfold cjA
  cases hm : maOk m with
  | false =>
    rw [hm] at HG
    rw [if_neg (by simp)]
    clear hv hm
    go_enter Try.func22, Try.ntmps22
    go_wp2_with fail
    refine (HG.out).mono ?_
    rintro e w1 ⟨rfl, hb1⟩
    go_wp2_with fail
    go_returns
    exact ⟨_, rfl, OwnR.nil _ _, hb1⟩
  | true =>
    rw [hm] at HG
    rw [if_pos rfl]
    have h8 := maOk_le hm
    have HSQ := Lib.hid (fun i hi => maOk_seq hm i hi)
    obtain ⟨N, hN⟩ : ∃ N, N = m.length := ⟨_, rfl⟩
    obtain ⟨R, hR⟩ : ∃ R : Nat → List Int, R = fun i => barG (m.getD i []) := ⟨_, rfl⟩
    have hgoal : cjL m = genR N R := by rw [hN, hR]; rfl
    rw [hgoal]
    rw [← hN] at HV h8 HG ⊢
    have HN := Lib.hid hN
    have HR := Lib.hid hR
    clear hv hm hgoal hR hN
    go_enter Try.func22, Try.ntmps22
    go_wp2_with fail
    refine (HG.out).mono ?_
    rintro e w1 ⟨rfl, hb1⟩
    have HB1 := Lib.hid hb1
    clear hb1
    go_wp2_with fail
    go_loopw [12, 4] (fun x o wr => ∃ j : Nat, j ≤ N ∧ x = .int .i64 j ∧ OwnR wr w.heap.size o (genR j R) ∧ Below w.heap.size w wr) (fun x _ _ => N - (intOf x).toNat)
    case atStart => exact ⟨0, Nat.zero_le _, rfl, OwnR.nil _ _, HB1.out⟩
    case round =>
      obtain ⟨j, hj, rfl, hown, hbel⟩ := hrel
      have HB := Lib.hid hbel
      have HO := Lib.hid hown
      clear hown hbel
      by_cases hlt : j < N
      · have h0 : (0 : Int) ≤ (j : Int) := by omega
        have h1 : (j : Int) < (N : Int) := by omega
        have hlt2 : j < m.length := by rw [← HN.out]; exact hlt
        obtain ⟨-, b, off, u, rfl, c1, hu⟩ := (HV.out.below HB.out).at j hlt2
        have hts := genR_succ j R
        rw [show R j = barG (m.getD j []) by rw [HR.out]] at hts
        have hcj := phConjugate_any u (m.getD j []) wr hu (HSQ.out j hlt2)
        obtain ⟨l, hl⟩ : ∃ l, l = barG (m.getD j []) := ⟨_, rfl⟩
        rw [← hl] at hts hcj
        have HT := Lib.hid hts
        have HOW := Lib.hid hcj
        have HGL := Lib.hid (show (genR j R).length ≤ 1048576 by rw [genR_length]; omega)
        clear hl hu hts hcj hlt2
        go_wp2_with (first
          | (go_at_call 47; refine (HOW.out).mono ?_; rintro e w2 ⟨r, rfl, hor, hb2⟩; obtain ⟨ra, rc, hre⟩ := hor.is.sl; subst hre; have HOR := Lib.hid hor; have HB2 := Lib.hid hb2; clear hor hb2)
          | (at_builtin; refine wpList_pushR rfl _ _ rfl w.heap.size _ (genR j R) rfl wr HO.out (HB2.out.alloc HB2.out.size _) w2.heap.size 1 _ l rfl (by simp) (HOR.out.alloc _) HGL.out w.heap.size w (belowa (joins HB.out HB2.out) _) (Nat.le_refl _) HB.out.size (by have := HB.out.size; have := HB2.out.size; simp; omega) ?_; intro v3 w3 ho3 hb3))
        go_roundw
        case rel => exact ⟨j + 1, by omega, by go_num, by rw [HT.out]; assumption, by assumption⟩
        case measure => simp [intOf]; omega
      · have he : j = N := by omega
        subst he
        go_wp2_with fail
        go_returns
        exact ⟨_, rfl, HO.out, HB.out⟩

/-! ### Fourier's matrices -/
def fuG (n i j : Nat) : Int := ((4 * i * j / n : Nat) : Int) % 4
def fuL (n : Nat) : List (List Int) := genR n (fun i => gen n (fun j => fuG n i j))
def fuOk (n : Int) : Bool := decide (n = 1 ∨ n = 2 ∨ n = 4)
def fuA (n : Int) : List (List Int) := if fuOk n then fuL n.toNat else []
theorem fuA_tot (n : Int) : tot (fuA n) ≤ 1048576 := by
  unfold fuA; split
  · rename_i h
    have h' : n = 1 ∨ n = 2 ∨ n = 4 := of_decide_eq_true h
    have h1 := tot_genR n.toNat 4 (fun i => gen n.toNat (fun j => fuG n.toNat i j)) (fun i hi => by
      show (gen n.toNat (fun j => fuG n.toNat i j)).length ≤ 4
      rw [gen_length]; omega)
    unfold fuL
    omega
  · simp [tot]
theorem wrap_small (x : Nat) (h : x ≤ 1000000) : wrap64 (x : Int) = x := by unfold wrap64; omega
theorem fu_walk (N j i : Nat) (hp : j * i ≤ 16) : wrap64 ((wrap64 (4 * (j : Int) * (i : Int))).tdiv (N : Int)) = ((4 * j * i / N : Nat) : Int) := by
  have e : 4 * (j : Int) * (i : Int) = ((4 * j * i : Nat) : Int) := by simp
  have hb : 4 * j * i ≤ 64 := by rw [Nat.mul_assoc]; omega
  rw [e, wrap_small _ (by omega), Int.tdiv_eq_ediv_of_nonneg (by omega), ← Int.natCast_ediv, wrap_small _ (by have := Nat.div_le_self (4 * j * i) N; omega)]
theorem fu_small (N j i : Nat) (hp : j * i ≤ 16) : 4 * j * i / N ≤ 64 := by
  have h1 := Nat.div_le_self (4 * j * i) N
  have h2 : 4 * j * i ≤ 64 := by rw [Nat.mul_assoc]; omega
  omega
set_option maxRecDepth 100000 in
set_option maxHeartbeats 2000000 in
theorem haFourier_any (N : Nat) (hn : 1 ≤ N ∧ N ≤ 4) (w : World) : Calls Try.prog 32 #[.int .i64 N] w (MakesR w (fuL N)) := by
  obtain ⟨R, hR⟩ : ∃ R : Nat → List Int, R = fun i => gen N (fun j => fuG N i j) := ⟨_, rfl⟩
  have hgoal : fuL N = genR N R := by rw [hR]; rfl
  rw [hgoal]
  have HR := Lib.hid hR
  clear hgoal hR
  go_enter Try.func32, Try.ntmps32
  go_wp2_with fail
  go_loopw [4, 3] (fun x o wr => ∃ j : Nat, j ≤ N ∧ x = .int .i64 j ∧ OwnR wr w.heap.size o (genR j R) ∧ Below w.heap.size w wr) (fun x _ _ => N - (intOf x).toNat)
  case atStart => exact ⟨0, Nat.zero_le _, rfl, OwnR.nil _ _, by go_grown⟩
  case round =>
    obtain ⟨j, hj, rfl, hown, hbel⟩ := hrel
    have HB := Lib.hid hbel
    have HO := Lib.hid hown
    clear hown hbel
    generalize hwo : wr = wo at *
    clear hwo
    by_cases hlt : j < N
    · have h0 : (0 : Int) ≤ (j : Int) := by omega
      have h1 : (j : Int) < (N : Int) := by omega
      obtain ⟨G, hG⟩ : ∃ G : Nat → Int, G = fun i => fuG N j i := ⟨_, rfl⟩
      have hRj : R j = gen N G := by rw [HR.out, hG]
      have HG := Lib.hid hG
      have HRJ := Lib.hid hRj
      clear hG hRj
      go_wp2_with fail
      go_loopw [6, 5] (fun y r wq => ∃ i : Nat, i ≤ N ∧ y = .int .i64 i ∧ Own wq wo.heap.size r (gen i G) ∧ Below wo.heap.size wo wq) (fun y _ _ => N - (intOf y).toNat)
      case atStart => exact ⟨0, Nat.zero_le _, rfl, World.ownsRow_nil _ _ _ _, Below.refl _ _⟩
      case round =>
        obtain ⟨i, hi, rfl, hr, hbq⟩ := hrel
        have HBQ := Lib.hid hbq
        have HRW := Lib.hid hr
        clear hbq hr
        by_cases hil : i < N
        · have h0i : (0 : Int) ≤ (i : Int) := by omega
          have h1i : (i : Int) < (N : Int) := by omega
          have hp : j * i ≤ 4 * 4 := Nat.mul_le_mul (by omega) (by omega)
          have hgi : G i = ((4 * j * i / N : Nat) : Int) % 4 := by rw [HG.out]; rfl
          have hfw := fu_walk N j i hp
          have hfs := fu_small N j i hp
          obtain ⟨x, hx⟩ : ∃ x : Nat, x = 4 * j * i / N := ⟨_, rfl⟩
          rw [← hx] at hgi hfw hfs
          have HFW := Lib.hid hfw
          have HPM := Lib.hid (phMod_any (x : Int) (by omega) (by omega))
          have hgl : (gen i G).length ≤ 1048576 := by rw [gen_length]; omega
          have hgs := gen_succ i G
          rw [hgi] at hgs
          have HGS := Lib.hid hgs
          have HGL := Lib.hid hgl
          clear hgs hgl hgi hx hfw hp
          go_wp2_with (first
            | (go_at_call 61; rw [HFW.out]; refine (HPM.out _).mono ?_; rintro e w' ⟨rfl, rfl⟩)
            | (at_builtin; refine wpList_push rfl _ _ rfl wo.heap.size _ (gen i G) rfl (HRW.out.alloc _) wr.heap.size 1 ((x : Int) % 4) rfl (by simp) HGL.out wo.heap.size wo (HBQ.out.alloc HBQ.out.size _) (Nat.le_refl _) (by have := HBQ.out.size; simp; omega) (by have := HBQ.out.size; simp; omega) ?_; intro v2 w2 ho2 hb2))
          go_roundw
          case rel => exact ⟨i + 1, by omega, by go_num, by rw [HGS.out]; assumption, by assumption⟩
          case measure => simp [intOf]; omega
        · have he : i = N := by omega
          subst he
          have hgs := genR_succ j R
          rw [HRJ.out] at hgs
          have HGS := Lib.hid hgs
          have HGL := Lib.hid (show (genR j R).length ≤ 1048576 by rw [genR_length]; omega)
          obtain ⟨ra, rc, hre⟩ := HRW.out.is.sl
          subst hre
          clear hgs
          go_wp2_with (first
            | (at_builtin; refine wpList_pushR rfl _ _ rfl w.heap.size _ (genR j R) rfl wo HO.out (HBQ.out.alloc HBQ.out.size _) wr.heap.size 1 _ (gen i G) rfl (by simp) (HRW.out.alloc _) HGL.out w.heap.size w (belowa (joins HB.out HBQ.out) _) (Nat.le_refl _) HB.out.size (by have := HB.out.size; have := HBQ.out.size; simp; omega) ?_; intro v2 w2 ho2 hb2))
          go_roundw
          case rel => exact ⟨j + 1, by omega, by go_num, by rw [HGS.out]; assumption, by assumption⟩
          case measure => simp [intOf]; omega
    · have he : j = N := by omega
      subst he
      go_wp2_with fail
      go_returns
      exact ⟨_, rfl, HO.out, HB.out⟩
theorem sfourierMatrix (n : Int) (w : World) : Calls Try.prog 11 #[.int .i64 n] w (MakesRB w (fuA n) (fuOk n)) := by
  by_cases h : n = 1 ∨ n = 2 ∨ n = 4
  · have e1 : fuOk n = true := decide_eq_true h
    have e2 : fuA n = fuL n.toNat := by unfold fuA; rw [e1]; rfl
    rw [e1, e2]
    obtain ⟨N, rfl⟩ := Int.eq_ofNat_of_zero_le (show 0 ≤ n by omega)
    have HF := Lib.hid (haFourier_any N (by omega))
    simp only [Int.toNat_natCast]
    clear e1 e2
    rcases (show N = 1 ∨ N = 2 ∨ N = 4 by omega) with rfl | rfl | rfl
    all_goals
      clear h
      simp only [Int.cast_ofNat_Int] at HF ⊢
      go_enter Try.func11, Try.ntmps11
      go_wp2_with fail
      refine (HF.out _).mono ?_
      rintro e w1 ⟨v1, rfl, ho1, hb1⟩
      go_wp2_with fail
      go_returns
      exact ⟨_, rfl, ho1, hb1⟩
  · have e1 : fuOk n = false := decide_eq_false h
    have e2 : fuA n = [] := by unfold fuA; rw [e1]; rfl
    rw [e1, e2]
    have n1 : ¬ n = 1 := by omega
    have n2 : ¬ n = 2 := by omega
    have n4 : ¬ n = 4 := by omega
    clear e1 e2 h
    go_enter Try.func11, Try.ntmps11
    go_wp2_with fail
    all_goals first
      | exact absurd ‹((n != 1) = false ∨ (n != 2) = false) ∨ (n != 4) = false› (by simp [n1, n2, n4])
      | (go_returns; exact ⟨_, rfl, OwnR.nil _ _, by go_grown⟩)
end Go.Proofs.Ytbppbkoppbnodaa
