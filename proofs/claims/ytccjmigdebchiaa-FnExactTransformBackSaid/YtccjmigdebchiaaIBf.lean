/- The program's butterfly. -/
import Derived.Test.YtccjmigdebchiaaSg
import Derived.Test.YtccjmigdebchiaaTrM
import Derived.Test.YtccjmigdebchiaaIVa
import Derived.Test.YtccjmigdebchiaaRg
import Derived.Test.YtccjmigdebchiaaRun
namespace Go.Proofs.Ytccjmigdebchiaa
set_option maxRecDepth 100000
open Go.RowKit

theorem FA_zero : FA 0 0 := ⟨fun _ => ⟨false, 0, 149, by decide, by unfold NumZ; decide⟩, fun h => absurd h (by decide)⟩
/-- What a butterfly leaves. -/
def Bfly (w : World) (B g N o m : Nat) (E : Nat → Nat × Nat) (X Y : Nat → Int) (e : Ending) (w' : World) : Prop :=
  e = .returned (.tuple #[]) ∧ ∃ E', RowC w' B g N E' ∧ (∀ i, (i < o ∨ o + m ≤ i) → E' i = E i) ∧ (∀ q, q < m → FA (E' (o + q)).1 (X q) ∧ FA (E' (o + q)).2 (Y q)) ∧ w.grownBy w' (some g)
set_option maxRecDepth 100000 in
set_option maxHeartbeats 4000000 in
theorem butterfly_any (wv b s m N o g g2 B B2 : Nat) (E C : Nat → Nat × Nat) (Z : Nat → Int × Int) (M : Int) (hw : wv ≤ 3) (hb1 : 2 ≤ b) (hb2 : b ≤ 4) (hs : 1 ≤ s) (hm : m = b * s) (hm32 : m ≤ 32) (hN : o + m ≤ N) (hN32 : N ≤ 32)
    (hM1 : ((b - 1 : Nat) : Int) * M ≤ 16777215) (hM2 : (b : Int) * M ≤ 33554431) (hM0 : 0 ≤ M) (hZ : upTo Z m M) (w : World) (hrow : RowC w B g N E) (hcut : RowC w B2 g2 N C) (hne : g ≠ g2) (hzero : ∀ q, q < m → E (o + q) = (0, 0))
    (hC : ∀ q, q < m → FK .f32 (C (o + q)).1 (Z q).1 ∧ FK .f32 (C (o + q)).2 (Z q).2) :
    Calls Try.prog 65 #[.int .i64 wv, .slice (some ⟨g, o, none⟩) m m, .slice (some ⟨g2, o, none⟩) m m, .int .i64 s] w (Bfly w B g N o m E (fun q => btX wv s Z q b) (fun q => btY wv s Z q b)) := by
  rw [hm] at hZ
  have HLE := Lib.hid (fun p k hk => bt_le (w := wv) (by omega : 0 < s) hZ p k hk)
  have HTL := Lib.hid (fun p d hd => btT_le (w := wv) (by omega : 0 < s) hZ p d hd)
  have HIX := Lib.hid (fun p d (hd : d < b) => show p % s + d * s < m by rw [hm]; exact bt_index s b p d (by omega) hd)
  have HEX := Lib.hid (fun p => show m ≤ p % s + b * s by rw [hm]; omega)
  have HPT := Lib.hid (fun d p => bt_part s d p (by omega : 0 < s))
  have HZU := Lib.hid (show upTo Z m M by rw [hm]; exact hZ)
  have HRW := Lib.hid hrow
  have HCT := Lib.hid hcut
  have HCC := Lib.hid hC
  have HM := Lib.hid (And.intro hM1 (And.intro hM2 hM0))
  have HMB := Lib.hid hm
  have hs32 : s ≤ 16 := by
    have : 2 * s ≤ b * s := Nat.mul_le_mul_right _ hb1
    omega
  have hone : 1 ≤ m := by
    have : 2 * 1 ≤ b * s := Nat.mul_le_mul hb1 hs
    omega
  have HZ0 := Lib.hid (show ∀ q, q < m → FA (E (o + q)).1 (if q < 0 then btX wv s Z q b else 0) ∧ FA (E (o + q)).2 (if q < 0 then btY wv s Z q b else 0) from fun q hq => by
    rw [hzero q hq, if_neg (Nat.not_lt_zero _), if_neg (Nat.not_lt_zero _)]
    exact ⟨FA_zero, FA_zero⟩)
  clear hZ hm hrow hcut hzero hC hM1 hM2 hM0
  go_enter Try.func65, Try.ntmps65
  go_wp2_with fail
  go_loopw [12] (fun i wr => ∃ (p : Nat) (E' : Nat → Nat × Nat), p ≤ m ∧ i = .int .i64 p ∧ RowC wr B g N E' ∧ (∀ i, (i < o ∨ o + m ≤ i) → E' i = E i) ∧ (∀ q, q < m → FA (E' (o + q)).1 (if q < p then btX wv s Z q b else 0) ∧ FA (E' (o + q)).2 (if q < p then btY wv s Z q b else 0)) ∧ w.grownBy wr (some g)) (fun i _ => m - (intOf i).toNat)
  case atStart => exact ⟨0, E, Nat.zero_le _, rfl, HRW.out, fun _ _ => rfl, HZ0.out, World.grownBy.refl _ _⟩
  case round =>
    obtain ⟨p, E1, hp, rfl, hr, hou, hfa, hg⟩ := hrel
    have HR := Lib.hid hr
    have HOU := Lib.hid hou
    have HFA := Lib.hid hfa
    have HG := Lib.hid hg
    clear hr hou hfa hg
    by_cases hlt : p < m
    · have h0 : (0 : Int) ≤ (p : Int) := by omega
      have h1 : (p : Int) < (m : Int) := by omega
      have hrem := fun (w : World) t => run_rem_nat (P := Try.prog) w t p s (by omega)
      have hps := Nat.mod_lt p (show 0 < s by omega)
      obtain ⟨r, hr⟩ : ∃ r, r = p % s := ⟨_, rfl⟩
      rw [← hr] at hrem hps
      have HRM := Lib.hid hr
      clear hr
      obtain ⟨w2, hw2⟩ : ∃ w2, w2 = wr := ⟨_, rfl⟩
      rw [← hw2]
      rw [← hw2] at HR HG
      clear hw2
      go_wp2_with fail
      clear hrem
      go_loopw [9] (fun i wr => ∃ (d : Nat) (E' : Nat → Nat × Nat), d ≤ b ∧ i = .int .i64 ((r + d * s : Nat) : Int) ∧ RowC wr B g N E' ∧ (∀ i, (i < o ∨ o + m ≤ i) → E' i = E i) ∧ (∀ q, q < m → FA (E' (o + q)).1 (if q < p then btX wv s Z q b else if q = p then btX wv s Z p d else 0) ∧ FA (E' (o + q)).2 (if q < p then btY wv s Z q b else if q = p then btY wv s Z p d else 0)) ∧ w.grownBy wr (some g)) (fun i _ => 1000 - (intOf i).toNat)
      case atStart =>
        refine ⟨0, E1, Nat.zero_le _, congrArg (Value.int .i64) (by rw [Nat.zero_mul, Nat.add_zero, HRM.out]; rfl), HR.out, HOU.out, fun q hq => ?_, HG.out⟩
        have h := HFA.out q hq
        by_cases hc : q < p
        · simp only [if_pos hc] at h ⊢; exact h
        · simp only [if_neg hc] at h ⊢
          by_cases he : q = p
          · simp only [if_pos he]; exact h
          · simp only [if_neg he]; exact h
      case round =>
        clear HR HOU HFA HG E1
        obtain ⟨d, E1, hd, rfl, hr, hou, hfa, hg⟩ := hrel
        by_cases hdl : d < b
        · have hix := HIX.out p d hdl
          have hpt := HPT.out d p
          rw [← HRM.out] at hix hpt
          have hle := HLE.out p d hd
          have hle2 := HLE.out p (d + 1) (by omega)
          have htl := HTL.out p d hdl
          rw [btX_succ, btY_succ] at hle2
          have hv := hfa p hlt
          rw [if_neg (Nat.lt_irrefl _), if_pos rfl, if_neg (Nat.lt_irrefl _), if_pos rfl] at hv
          have hxs : r + (d + 1) * s = (r + d * s) + s := by rw [Nat.add_mul]; omega
          obtain ⟨xs, hxs'⟩ : ∃ x, x = r + d * s := ⟨_, rfl⟩
          rw [← hxs'] at hix hpt hxs ⊢
          have hcc := HCC.out xs hix
          have c1 := (HCT.out.grown hg (Ne.symm hne)).cell (o + xs) (by omega)
          have c3 := hr.cell (o + p) (by omega)
          have n1 : (some g : Option Nat) ≠ some g2 := fun e => hne (Option.some.inj e)
          have hpb : p / s * d ≤ 9 := by
            have h1 : p / s < b := Nat.div_lt_of_lt_mul (by rw [Nat.mul_comm, ← HMB.out]; exact hlt)
            exact Nat.mul_le_mul (show p / s ≤ 3 by omega) (show d ≤ 3 by omega)
          have hq1 : IntKind.i64.wrap ((p : Int) / (s : Int)) = ((p / s : Nat) : Int) := by
            rw [show (p : Int) / (s : Int) = ((p / s : Nat) : Int) from rfl]
            have h2 : p / s ≤ p := Nat.div_le_self p s
            obtain ⟨z, hz⟩ : ∃ z, z = p / s := ⟨_, rfl⟩
            rw [← hz] at h2 ⊢
            exact IntWalk.i64_in _ (by omega)
          have hq2 : IntKind.i64.wrap ((xs : Int) / (s : Int)) = (d : Int) := by
            rw [show (xs : Int) / (s : Int) = ((xs / s : Nat) : Int) from rfl, hpt]
            exact IntWalk.i64_in _ (by omega)
          have hq3 : IntKind.i64.wrap (((p / s : Nat) : Int) * (d : Int)) = ((p / s * d : Nat) : Int) := by
            rw [← Int.natCast_mul]
            exact IntWalk.i64_in _ (by omega)
          have hs0 : (s = 0) = False := by simp; omega
          have HS0 := Lib.hid hs0
          have hva := value_any wv (p / s * d) hw (by omega)
          -- what the sums are in size
          have hdM : (d : Int) * M ≤ ((b - 1 : Nat) : Int) * M := Int.mul_le_mul_of_nonneg_right (by omega) HM.out.2.2
          have hdM2 : ((d + 1 : Nat) : Int) * M ≤ (b : Int) * M := Int.mul_le_mul_of_nonneg_right (by omega) HM.out.2.2
          have hM1 : M ≤ 16777215 := by
            have h1 : 1 * M ≤ ((b - 1 : Nat) : Int) * M := Int.mul_le_mul_of_nonneg_right (by omega) HM.out.2.2
            have := HM.out.1
            omega
          have hMM := HM.out
          have hz1 : (Z xs).1.natAbs < 16777216 ∧ (Z xs).2.natAbs < 16777216 := by
            have h := HZU.out xs hix
            omega
          obtain ⟨m1, m2, e3, y5, y6⟩ := FC_turn hcc.1 hcc.2 hz1.1 hz1.2 ((wv * (p / s * d) % 4 : Nat) : Int) (by omega) (by omega)
          have ht : (btT wv s Z p d) = dtT ((wv * (p / s * d) % 4 : Nat) : Int) ((Z xs).1, (Z xs).2) := by unfold btT; rw [hxs', HRM.out]
          rw [← ht] at y5 y6
          obtain ⟨s1, e4, y7⟩ := FA_add (hv.1.1 (by omega)) y5 (by omega)
          obtain ⟨s2, e5, y8⟩ := FA_add (hv.2.1 (by omega)) y6 (by omega)
          have e6 : cSumBits .add .f32 (E1 (o + p)).1 (E1 (o + p)).2 m1 m2 = some (s1, s2) := by simp only [cSumBits, e4, e5, Option.bind_some]
          have hnf : ∀ q, q < m → FA ((setC E1 (o + p) (s1, s2)) (o + q)).1 (if q < p then btX wv s Z q b else if q = p then btX wv s Z p (d + 1) else 0) ∧ FA ((setC E1 (o + p) (s1, s2)) (o + q)).2 (if q < p then btY wv s Z q b else if q = p then btY wv s Z p (d + 1) else 0) := fun q hq => by
            by_cases he : q = p
            · subst he
              rw [if_neg (Nat.lt_irrefl _), if_pos rfl, if_neg (Nat.lt_irrefl _), if_pos rfl, show setC E1 (o + q) (s1, s2) (o + q) = (s1, s2) from if_pos rfl]
              exact ⟨y7, y8⟩
            · have h := hfa q hq
              rw [if_neg he, if_neg he] at h ⊢
              rw [show setC E1 (o + p) (s1, s2) (o + q) = E1 (o + q) from if_neg (by omega)]
              exact h
          have hou2 : ∀ i, (i < o ∨ o + m ≤ i) → setC E1 (o + p) (s1, s2) i = E i := fun i hi => by
            rw [show setC E1 (o + p) (s1, s2) i = E1 i from if_neg (by omega)]
            exact hou i hi
          have hcl : IntKind.i64.wrap ((xs : Int) + (s : Int)) = (((xs + s) : Nat) : Int) := Eq.trans (IntWalk.i64_in _ (by omega)) (by push_cast; rfl)
          have hx0 : (0 : Int) ≤ (xs : Int) := by omega
          have hx1 : (xs : Int) < (m : Int) := by omega
          have HOU := Lib.hid hou2
          have HNF := Lib.hid hnf
          have HXS := Lib.hid (show (xs : Int) + (s : Int) = ((r + (d + 1) * s : Nat) : Int) by rw [hxs]; push_cast; rfl)
          have HMS := Lib.hid (show 1000 - (intOf (.int .i64 ((xs : Int) + (s : Int)))).toNat < 1000 - (intOf (.int .i64 (xs : Int))).toNat by simp [intOf]; omega)
          have HMU := Lib.hid (fun w t => run_complex_mul32 (P := Try.prog) w t _ _ _ _ _ _ e3)
          have HAD := Lib.hid (fun w t => run_complex_sum (P := Try.prog) w .add (Or.inl rfl) t .f32 _ _ _ _ _ _ e6)
          obtain ⟨r1, hr1⟩ : ∃ r, r = (C (o + xs)).1 := ⟨_, rfl⟩
          obtain ⟨r2, hr2⟩ : ∃ r, r = (C (o + xs)).2 := ⟨_, rfl⟩
          obtain ⟨r5, hr5⟩ : ∃ r, r = (E1 (o + p)).1 := ⟨_, rfl⟩
          obtain ⟨r6, hr6⟩ : ∃ r, r = (E1 (o + p)).2 := ⟨_, rfl⟩
          obtain ⟨v1, hv1⟩ : ∃ r, r = f32of (vx ((wv * (p / s * d) % 4 : Nat) : Int)) := ⟨_, rfl⟩
          obtain ⟨v2, hv2⟩ : ∃ r, r = f32of (vy ((wv * (p / s * d) % 4 : Nat) : Int)) := ⟨_, rfl⟩
          rw [← hr1, ← hr2] at c1 HMU
          rw [← hr5, ← hr6] at c3 HAD
          rw [← hv1, ← hv2] at hva HMU
          obtain ⟨u1, hu1⟩ : ∃ u, u = p / s * d := ⟨_, rfl⟩
          rw [← hu1] at hva hq3
          obtain ⟨u2, hu2⟩ : ∃ u, u = p / s := ⟨_, rfl⟩
          rw [← hu2] at hq1 hq3
          have HVA := Lib.hid hva
          have HQ1 := Lib.hid hq1
          have HQ2 := Lib.hid hq2
          have HQ3 := Lib.hid hq3
          have CA := Lib.hid c1
          have CS := Lib.hid c3
          have NA := Lib.hid n1
          have HR := Lib.hid hr
          have HG := Lib.hid hg
          clear hs0 hpt hle hle2 htl hv hxs hcc c1 c3 n1 hpb hq1 hq2 hq3 hva hdM hdM2 hM1 hMM hz1 e3 y5 y6 ht e4 y7 e5 y8 e6 hnf hou2 hr1 hr2 hr5 hr6 hv1 hv2 hu1 hu2 hr hou hfa hg hxs'
          go_wp2_with fail
          refine wp_region_held_drew (S := (fun w' => World.grownBy wr w' (some (g)))) (by kernel_rfl) (grownDrew (World.grownBy.refl _ _)) ?_
          obtain ⟨d1, hdw⟩ : ∃ w', w' = wr.drew := ⟨_, rfl⟩
          rw [← hdw]
          have hb : Below wr.heap.size wr d1 := by rw [hdw]; exact belowN (Below.refl _ _) 1
          have F1_CS := Lib.hid (keepc hb CS.out)
          have F1_HR := Lib.hid (RowC.below HR.out hb)
          have F1_HG := Lib.hid (grownB HG.out hb)
          clear hdw hb
          intro hHeld
          refine' wpAnyH_take (i := 0) (v := _) rfl (by kernel_rfl) (by kernel_rfl) (by kernel_rfl) (fun _ _ _ h => h) (Or.inl ⟨by rfl, ?hy1⟩) (by assumption) ?rest1
          case hy1 =>
            intro w h
            (try clear h)
            go_simp
            (try with_reducible rfl)
          (try simp only [Act.put, List.getElem_toArray, List.getElem_cons_zero, List.setIfInBounds_toArray, List.set_cons_zero, List.set_cons_succ])
          refine' wpAnyH_take (i := 1) (v := _) rfl (by kernel_rfl) (by kernel_rfl) (by kernel_rfl) (fun _ _ _ h => h) (Or.inl ⟨by rfl, ?hy2⟩) (by assumption) ?rest2
          case hy2 =>
            intro w h
            (try clear h)
            go_simp
            (try with_reducible rfl)
          (try simp only [Act.put, List.getElem_toArray, List.getElem_cons_zero, List.getElem_cons_succ, List.setIfInBounds_toArray, List.set_cons_zero, List.set_cons_succ])
          refine' wpAnyH_take (i := 2) (v := _) rfl (by kernel_rfl) (by kernel_rfl) (by kernel_rfl) (fun _ _ _ h => h) (Or.inl ⟨by rfl, ?hy3⟩) (by assumption) ?rest3
          case hy3 =>
            intro w h
            (try clear h)
            go_simp
            (try with_reducible rfl)
          (try simp only [Act.put, List.getElem_toArray, List.getElem_cons_zero, List.getElem_cons_succ, List.setIfInBounds_toArray, List.set_cons_zero, List.set_cons_succ])
          refine' wpAnyH_take (i := 4) (v := _) rfl (by kernel_rfl) (by kernel_rfl) (by kernel_rfl) (fun _ _ _ h => h) (Or.inl ⟨by rfl, ?hy4⟩) (by assumption) ?rest4
          case hy4 =>
            intro w h
            (try clear h)
            go_simp
            (try with_reducible rfl)
          (try simp only [Act.put, List.getElem_toArray, List.getElem_cons_zero, List.getElem_cons_succ, List.setIfInBounds_toArray, List.set_cons_zero, List.set_cons_succ])
          refine' wpAnyH_take (i := 5) (v := _) rfl (by kernel_rfl) (by kernel_rfl) (by kernel_rfl) (fun _ _ _ h => h) (Or.inl ⟨by rfl, ?hy5⟩) (by assumption) ?rest5
          case hy5 =>
            intro w h
            (try clear h)
            go_simp
            (try with_reducible rfl)
          (try simp only [Act.put, List.getElem_toArray, List.getElem_cons_zero, List.getElem_cons_succ, List.setIfInBounds_toArray, List.set_cons_zero, List.set_cons_succ])
          refine' wpAnyH_take (i := 6) (v := _) rfl (by kernel_rfl) (by kernel_rfl) (by kernel_rfl) (fun _ _ _ h => h) (Or.inl ⟨by rfl, ?hy6⟩) (by assumption) ?rest6
          case hy6 =>
            intro w h
            (try clear h)
            go_simp
            (try with_reducible rfl)
          (try simp only [Act.put, List.getElem_toArray, List.getElem_cons_zero, List.getElem_cons_succ, List.setIfInBounds_toArray, List.set_cons_zero, List.set_cons_succ])
          refine' wpAnyH_take (i := 7) (v := _) rfl (by kernel_rfl) (by kernel_rfl) (by kernel_rfl) (fun _ _ _ h => h) (Or.inl ⟨by rfl, ?hy7⟩) (by assumption) ?rest7
          case hy7 =>
            intro w h
            have c1 := cellR h CA.out NA.out
            (try clear h)
            go_simp
            (try with_reducible rfl)
          (try simp only [Act.put, List.getElem_toArray, List.getElem_cons_zero, List.getElem_cons_succ, List.setIfInBounds_toArray, List.set_cons_zero, List.set_cons_succ])
          refine' wpAnyH_take (i := 8) (v := _) rfl (by kernel_rfl) (by kernel_rfl) (by kernel_rfl) (fun _ _ _ h => h) (Or.inl ⟨by rfl, ?hy8⟩) (by assumption) ?rest8
          case hy8 =>
            intro w h
            (try clear h)
            go_simp
            (try with_reducible rfl)
          (try simp only [Act.put, List.getElem_toArray, List.getElem_cons_zero, List.getElem_cons_succ, List.setIfInBounds_toArray, List.set_cons_zero, List.set_cons_succ])
          refine' wpAnyH_take (i := 9) (v := _) rfl (by kernel_rfl) (by kernel_rfl) (by kernel_rfl) (fun _ _ _ h => h) (Or.inl ⟨by rfl, ?hy9⟩) (by assumption) ?rest9
          case hy9 =>
            intro w h
            (try clear h)
            go_simp
            (try with_reducible rfl)
          (try simp only [Act.put, List.getElem_toArray, List.getElem_cons_zero, List.getElem_cons_succ, List.setIfInBounds_toArray, List.set_cons_zero, List.set_cons_succ])
          refine' wpAnyH_take (i := 10) (v := _) rfl (by kernel_rfl) (by kernel_rfl) (by kernel_rfl) (fun _ _ _ h => h) (Or.inl ⟨by rfl, ?hy10⟩) (by assumption) ?rest10
          case hy10 =>
            intro w h
            (try clear h)
            go_simp
            (try with_reducible rfl)
          (try simp only [Act.put, List.getElem_toArray, List.getElem_cons_zero, List.getElem_cons_succ, List.setIfInBounds_toArray, List.set_cons_zero, List.set_cons_succ])
          refine' wpAnyH_take (i := 11) (v := _) rfl (by kernel_rfl) (by kernel_rfl) (by kernel_rfl) (fun _ _ _ h => h) (Or.inl ⟨by rfl, ?hy11⟩) (by assumption) ?rest11
          case hy11 =>
            intro w h
            have c0 := HS0.out
            have c1 := HQ1.out
            (try clear h)
            go_simp
            (try with_reducible rfl)
          (try simp only [Act.put, List.getElem_toArray, List.getElem_cons_zero, List.getElem_cons_succ, List.setIfInBounds_toArray, List.set_cons_zero, List.set_cons_succ])
          refine' wpAnyH_take (i := 12) (v := _) rfl (by kernel_rfl) (by kernel_rfl) (by kernel_rfl) (fun _ _ _ h => h) (Or.inl ⟨by rfl, ?hy12⟩) (by assumption) ?rest12
          case hy12 =>
            intro w h
            (try clear h)
            go_simp
            (try with_reducible rfl)
          (try simp only [Act.put, List.getElem_toArray, List.getElem_cons_zero, List.getElem_cons_succ, List.setIfInBounds_toArray, List.set_cons_zero, List.set_cons_succ])
          refine' wpAnyH_take (i := 13) (v := _) rfl (by kernel_rfl) (by kernel_rfl) (by kernel_rfl) (fun _ _ _ h => h) (Or.inl ⟨by rfl, ?hy13⟩) (by assumption) ?rest13
          case hy13 =>
            intro w h
            (try clear h)
            go_simp
            (try with_reducible rfl)
          (try simp only [Act.put, List.getElem_toArray, List.getElem_cons_zero, List.getElem_cons_succ, List.setIfInBounds_toArray, List.set_cons_zero, List.set_cons_succ])
          refine' wpAnyH_take (i := 14) (v := _) rfl (by kernel_rfl) (by kernel_rfl) (by kernel_rfl) (fun _ _ _ h => h) (Or.inl ⟨by rfl, ?hy14⟩) (by assumption) ?rest14
          case hy14 =>
            intro w h
            have c0 := HS0.out
            have c1 := HQ2.out
            (try clear h)
            go_simp
            (try with_reducible rfl)
          (try simp only [Act.put, List.getElem_toArray, List.getElem_cons_zero, List.getElem_cons_succ, List.setIfInBounds_toArray, List.set_cons_zero, List.set_cons_succ])
          refine' wpAnyH_take (i := 15) (v := _) rfl (by kernel_rfl) (by kernel_rfl) (by kernel_rfl) (fun _ _ _ h => h) (Or.inl ⟨by rfl, ?hy15⟩) (by assumption) ?rest15
          case hy15 =>
            intro w h
            have c1 := HQ3.out
            (try clear h)
            go_simp
            (try with_reducible rfl)
          (try simp only [Act.put, List.getElem_toArray, List.getElem_cons_zero, List.getElem_cons_succ, List.setIfInBounds_toArray, List.set_cons_zero, List.set_cons_succ])
          refine wpAnyH_ready (rs := [3, 16]) (by kernel_rfl) (by simp) ?_
          refine AllReadyH.cons rfl (fun K hK => ?_) (AllReadyH.cons rfl (fun K hK => ?_) AllReadyH.nil)
          · have c1 := F1_CS.out
            go_simp
            refine hK.out _ _ hHeld (fun hHeld => ?_)
            clear hK K
            (try simp only [Act.put, List.getElem_toArray, List.getElem_cons_zero, List.getElem_cons_succ, List.setIfInBounds_toArray, List.set_cons_zero, List.set_cons_succ])
            refine wpAnyH_ready (rs := [16]) (by kernel_rfl) (by simp) ?_
            refine AllReadyH.cons rfl (fun K hK => ?_) AllReadyH.nil
            go_simp
            refine (HVA.out _).mono ?_
            rintro e d2 ⟨rfl, hb⟩
            have F2_CS := Lib.hid (keepc hb F1_CS.out)
            have F2_HR := Lib.hid (RowC.below F1_HR.out hb)
            have F2_HG := Lib.hid (grownB F1_HG.out hb)
            have hHeld := grownB hHeld hb
            clear hb
            refine hK.out _ _ hHeld (fun hHeld => ?_)
            clear hK K
            (try simp only [Act.put, List.getElem_toArray, List.getElem_cons_zero, List.getElem_cons_succ, List.setIfInBounds_toArray, List.set_cons_zero, List.set_cons_succ])
            refine' wpAnyH_take (i := 17) (v := _) rfl (by kernel_rfl) (by kernel_rfl) (by kernel_rfl) (fun _ _ _ h => h) (Or.inl ⟨by rfl, ?hy16⟩) (by assumption) ?rest16
            case hy16 =>
              intro w h
              have c1 := HMU.out
              (try clear h)
              go_simp
              (try with_reducible rfl)
            (try simp only [Act.put, List.getElem_toArray, List.getElem_cons_zero, List.getElem_cons_succ, List.setIfInBounds_toArray, List.set_cons_zero, List.set_cons_succ])
            refine' wpAnyH_take (i := 18) (v := _) rfl (by kernel_rfl) (by kernel_rfl) (by kernel_rfl) (fun _ _ _ h => h) (Or.inl ⟨by rfl, ?hy17⟩) (by assumption) ?rest17
            case hy17 =>
              intro w h
              have c1 := HAD.out
              (try clear h)
              go_simp
              (try with_reducible rfl)
            (try simp only [Act.put, List.getElem_toArray, List.getElem_cons_zero, List.getElem_cons_succ, List.setIfInBounds_toArray, List.set_cons_zero, List.set_cons_succ])
            refine' wpAnyH_take (i := 19) (v := _) rfl (by kernel_rfl) (by kernel_rfl) (by kernel_rfl) (fun _ _ _ h => h) (Or.inl ⟨by rfl, ?hy18⟩) (by assumption) ?rest18
            case hy18 =>
              intro w h
              (try clear h)
              go_simp
              (try with_reducible rfl)
            (try simp only [Act.put, List.getElem_toArray, List.getElem_cons_zero, List.getElem_cons_succ, List.setIfInBounds_toArray, List.set_cons_zero, List.set_cons_succ])
            refine wpAnyH_ready (rs := [20]) (by kernel_rfl) (by simp) ?_
            refine AllReadyH.cons rfl (fun K hK => ?_) AllReadyH.nil
            have c1 := F2_CS.out
            have f1 := World.ownsRow.frozenAt F2_HR.out (o + p)
            have hst := @store_complex Try.prog
            go_simp
            refine hK.out _ _ (grownSet hHeld _ _) (fun hHeld => ?_)
            clear hK K
            (try simp only [Act.put])
            refine wpAnyH_done (by kernel_rfl) ?_ _
            go_wp2_with fail
            go_roundw
            case rel => exact ⟨d + 1, _, by omega, congrArg (Value.int .i64) HXS.out, RowC.set F2_HR.out (o + p) (s1, s2), HOU.out, HNF.out, grownSet F2_HG.out _ _⟩
            case measure => exact HMS.out
          · go_simp
            refine (HVA.out _).mono ?_
            rintro e d2 ⟨rfl, hb⟩
            have F2_CS := Lib.hid (keepc hb F1_CS.out)
            have F2_HR := Lib.hid (RowC.below F1_HR.out hb)
            have F2_HG := Lib.hid (grownB F1_HG.out hb)
            have hHeld := grownB hHeld hb
            clear hb
            refine hK.out _ _ hHeld (fun hHeld => ?_)
            clear hK K
            (try simp only [Act.put, List.getElem_toArray, List.getElem_cons_zero, List.getElem_cons_succ, List.setIfInBounds_toArray, List.set_cons_zero, List.set_cons_succ])
            refine' wpAnyH_take (i := 17) (v := _) rfl (by kernel_rfl) (by kernel_rfl) (by kernel_rfl) (fun _ _ _ h => h) (Or.inl ⟨by rfl, ?hy119⟩) (by assumption) ?rest119
            case hy119 =>
              intro w h
              have c1 := HMU.out
              (try clear h)
              go_simp
              (try with_reducible rfl)
            (try simp only [Act.put, List.getElem_toArray, List.getElem_cons_zero, List.getElem_cons_succ, List.setIfInBounds_toArray, List.set_cons_zero, List.set_cons_succ])
            refine wpAnyH_ready (rs := [3]) (by kernel_rfl) (by simp) ?_
            refine AllReadyH.cons rfl (fun K hK => ?_) AllReadyH.nil
            have c1 := F2_CS.out
            go_simp
            refine hK.out _ _ hHeld (fun hHeld => ?_)
            clear hK K
            (try simp only [Act.put, List.getElem_toArray, List.getElem_cons_zero, List.getElem_cons_succ, List.setIfInBounds_toArray, List.set_cons_zero, List.set_cons_succ])
            refine' wpAnyH_take (i := 18) (v := _) rfl (by kernel_rfl) (by kernel_rfl) (by kernel_rfl) (fun _ _ _ h => h) (Or.inl ⟨by rfl, ?hy120⟩) (by assumption) ?rest120
            case hy120 =>
              intro w h
              have c1 := HAD.out
              (try clear h)
              go_simp
              (try with_reducible rfl)
            (try simp only [Act.put, List.getElem_toArray, List.getElem_cons_zero, List.getElem_cons_succ, List.setIfInBounds_toArray, List.set_cons_zero, List.set_cons_succ])
            refine' wpAnyH_take (i := 19) (v := _) rfl (by kernel_rfl) (by kernel_rfl) (by kernel_rfl) (fun _ _ _ h => h) (Or.inl ⟨by rfl, ?hy121⟩) (by assumption) ?rest121
            case hy121 =>
              intro w h
              (try clear h)
              go_simp
              (try with_reducible rfl)
            (try simp only [Act.put, List.getElem_toArray, List.getElem_cons_zero, List.getElem_cons_succ, List.setIfInBounds_toArray, List.set_cons_zero, List.set_cons_succ])
            refine wpAnyH_ready (rs := [20]) (by kernel_rfl) (by simp) ?_
            refine AllReadyH.cons rfl (fun K hK => ?_) AllReadyH.nil
            have c1 := F2_CS.out
            have f1 := World.ownsRow.frozenAt F2_HR.out (o + p)
            have hst := @store_complex Try.prog
            go_simp
            refine hK.out _ _ (grownSet hHeld _ _) (fun hHeld => ?_)
            clear hK K
            (try simp only [Act.put])
            refine wpAnyH_done (by kernel_rfl) ?_ _
            go_wp2_with fail
            go_roundw
            case rel => exact ⟨d + 1, _, by omega, congrArg (Value.int .i64) HXS.out, RowC.set F2_HR.out (o + p) (s1, s2), HOU.out, HNF.out, grownSet F2_HG.out _ _⟩
            case measure => exact HMS.out
        · obtain rfl : d = b := by omega
          have hex := HEX.out p
          rw [← HRM.out] at hex
          have HR := Lib.hid hr
          have HG := Lib.hid hg
          have HOU := Lib.hid hou
          have HFA := Lib.hid (show ∀ q, q < m → FA (E1 (o + q)).1 (if q < (p + 1) then btX wv s Z q d else 0) ∧ FA (E1 (o + q)).2 (if q < (p + 1) then btY wv s Z q d else 0) from fun q hq => by
            have h := hfa q hq
            by_cases hc : q < p
            · rw [if_pos hc, if_pos hc] at h
              rw [if_pos (by omega), if_pos (by omega)]
              exact h
            · rw [if_neg hc, if_neg hc] at h
              by_cases he : q = p
              · subst he
                rw [if_pos rfl, if_pos rfl] at h
                rw [if_pos (by omega), if_pos (by omega)]
                exact h
              · rw [if_neg he, if_neg he] at h
                rw [if_neg (by omega), if_neg (by omega)]
                exact h)
          obtain ⟨xs, hxs'⟩ : ∃ x, x = r + d * s := ⟨_, rfl⟩
          rw [← hxs'] at hex ⊢
          have hx0 : (0 : Int) ≤ (xs : Int) := by omega
          have hx1 : (m : Int) ≤ (xs : Int) := by omega
          clear hr hg hou hfa hxs' hex
          go_wp2_with fail
          go_roundw
          case rel => exact ⟨p + 1, E1, by omega, by go_num, HR.out, HOU.out, HFA.out, HG.out⟩
          case measure => simp [intOf]; omega
    · obtain rfl : p = m := by omega
      go_wp2_with fail
      go_returns
      refine ⟨rfl, E1, HR.out, HOU.out, fun q hq => ?_, HG.out⟩
      have h := HFA.out q hq
      rw [if_pos hq, if_pos hq] at h
      exact h
end Go.Proofs.Ytccjmigdebchiaa
