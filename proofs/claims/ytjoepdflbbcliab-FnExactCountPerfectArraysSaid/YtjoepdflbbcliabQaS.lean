/- The model's CountPerfectArrays. -/
import Derived.Test.YtjoepdflbbcliabQaM
import Derived.Test.YtjoepdflbbcliabSPw
import Derived.Test.YtjoepdflbbcliabRw
namespace Go.Proofs.Ytjoepdflbbcliab
set_option maxRecDepth 100000
open Go.RowKit

/-- A piece of a list that lies in a block. -/
theorem wpList_cut {ops : Array Oper} {rest : List Oper} {o : Oper} {a : Act} {w : World} {Q : Exit → Act → World → Prop} (hg : o.guard = none) (x lo hi : Operand)
    (ho : o.op = .slice 35 x (some lo) (some hi) none) (g n cap : Nat) (hx : a.eval x = .slice (some ⟨g, 0, none⟩) n cap) (l h : Nat) (L H : Int) (hlo : a.eval lo = .int .i64 L) (hhi : a.eval hi = .int .i64 H) (hL : L = l) (hH : H = h)
    (h1 : l ≤ h) (h2 : h ≤ cap) (h3 : l < cap)
    (hK : wpList Try.prog ops Q rest (a.put o.dst (.slice (some ⟨g, l, none⟩) (h - l) (cap - l))) w) : wpList Try.prog ops Q (o :: rest) a w := by
  refine wpList_plain hg fun K hK' => ?_
  subst hL hH
  have hu : Try.prog.underlying 35 = some (.slice (Try.prog.elem 35)) := by rw [show Try.prog.elem 35 = 3 by kernel_rfl]; exact Try.underlying35
  have hsz : (sizeOf (Try.prog.elem 35)).run Try.prog w = .ok 1 w := by rw [show Try.prog.elem 35 = 3 by kernel_rfl]; simp [go_sem]
  unfold Oper.wp execOp
  simp only [ho, hx, hlo, hhi, Option.map_some, Option.map_none, run_sliceAt_slice w _ _ _ _ _ hu, run_slice_lh w _ _ _ _ hu _ _ _ _ (show (0 : Int) ≤ (l : Int) by omega) (show (l : Int) ≤ (h : Int) by omega) (show (h : Int) ≤ (cap : Int) by omega), hsz, Sem.run_bind, Result.andThen_ok, Sem.run_pure]
  refine hK' _ _ ?_
  have e : sliced (some ⟨g, 0, none⟩) (l : Int).toNat (h : Int).toNat cap 1 = .slice (some ⟨g, l, none⟩) (h - l) (cap - l) := by
    unfold sliced
    rw [Int.toNat_natCast, Int.toNat_natCast, if_neg (by omega), Option.map_some, Nat.mul_one, Addr.add_lit, Nat.zero_add]
  rw [e]
  exact hK
/-- The pieces of a list. -/
def rsV (g C cap j : Nat) : List Value := (List.range j).map (fun i => .slice (some ⟨g, i * C, none⟩) C (cap - i * C))
theorem rsV_len (g C cap j : Nat) : (rsV g C cap j).length = j := by simp [rsV]
theorem rsV_succ (g C cap j : Nat) : rsV g C cap (j + 1) = rsV g C cap j ++ [.slice (some ⟨g, j * C, none⟩) C (cap - j * C)] := by simp [rsV, List.range_succ]
theorem rsV_at (g C cap j i : Nat) (h : i < j) : (rsV g C cap j)[i]? = some (.slice (some ⟨g, i * C, none⟩) C (cap - i * C)) := by simp [rsV, h]
/-- The pieces, side by side, read as the array. -/
theorem pieces_IR {w : World} {B g b cp C R n cap k : Nat} (hR : 1 ≤ R) (hR8 : R ≤ 8) (hC : 1 ≤ C) (hC8 : C ≤ 8) (h : w.ownsRow B 35 1 (.slice (some ⟨b, 0, none⟩) R cp) R (rsV g C cap R))
    (hs : IS w (.slice (some ⟨g, 0, none⟩) n cap) (lowD (k : Int) (R * C))) : IR w (.slice (some ⟨b, 0, none⟩) R cp) (pqM R C k) := by
  refine .inr ⟨fun e => by have := pqM_len R C k; rw [e] at this; simp at this; omega, b, 0, cp, by rw [pqM_len], by rw [pqM_len]; unfold maxLen; omega, fun i hi => ?_⟩
  rw [pqM_len] at hi
  rw [Nat.zero_add]
  refine ⟨_, by rw [h.cellAt i (by omega), rsV_at _ _ _ _ _ hi], ?_⟩
  rw [pqM_row _ _ _ _ hi]
  refine .inr ⟨fun e => by have := congrArg List.length e; rw [gen_length] at this; simp at this; omega, g, i * C, cap - i * C, by rw [gen_length], by rw [gen_length]; unfold maxLen; omega, fun j hj => ?_⟩
  rw [gen_length] at hj
  have hp := place_lt hi hj
  rcases hs with ⟨h0, _⟩ | ⟨_, g', o', c', hv, _, hc⟩
  · have := congrArg List.length h0; rw [lowD_length] at this; simp at this; omega
  · simp only [Value.slice.injEq, Option.some.injEq, Addr.mk.injEq] at hv
    obtain ⟨⟨rfl, rfl, -⟩, -, -⟩ := hv
    have := hc (i * C + j) (by rw [lowD_length]; exact hp)
    rw [Nat.zero_add] at this
    rw [this, gen_getD _ _ _ hj]

set_option maxRecDepth 100000 in
set_option maxHeartbeats 4000000 in
theorem spaYes (R C : Nat) (hR : 1 ≤ R ∧ R ≤ 6) (hC : 1 ≤ C ∧ C ≤ 6) (hN : R * C ≤ 6) (w : World) : Calls Try.prog 27 #[.int .i64 R, .int .i64 C] w (Ret w (.tuple #[.int .i64 (rkL (pqB R C) (pow4' (R * C))).length, .bool true])) := by
  have HI1 := Lib.hid (show ∀ w, Calls Try.prog 52 #[.int .i64 R, .int .i64 1, .int .i64 6] w (Pure w (.bool true)) from fun w => by
    have h := l1In_any R 1 6 w
    rwa [show inB (R : Int) 1 6 = true by simp [inB]; omega] at h)
  have HI2 := Lib.hid (show ∀ w, Calls Try.prog 52 #[.int .i64 C, .int .i64 1, .int .i64 6] w (Pure w (.bool true)) from fun w => by
    have h := l1In_any C 1 6 w
    rwa [show inB (C : Int) 1 6 = true by simp [inB]; omega] at h)
  have HW := Lib.hid (fun (k : Nat) (hk : k < pow4' (R * C)) w => show Calls Try.prog 53 #[.int .i64 (R * C : Nat), .int .i64 k] w (Makes w (lowD k (R * C))) from phWith_any (R * C) (by omega) k (by omega) (by have := (pow4_le' (R * C) (by omega)).2; omega) w)
  have HP := Lib.hid (fun (k : Nat) v w (h : IR w v (pqM R C k)) => show Calls Try.prog 43 #[v] w (Ret w (.bool (pqB R C k))) from peWhole_any v _ w h (pqM_ok R C k (by omega) (by omega)))
  have HST := Lib.hid (fun k => show rkL (pqB R C) (k + 1) = if pqB R C k then rkL (pqB R C) k ++ [k] else rkL (pqB R C) k from rfl)
  have HLEN := Lib.hid (rkL_len (pqB R C))
  have HIR := Lib.hid (fun w B g b cp n cap k h hs => pieces_IR (w := w) (B := B) (g := g) (b := b) (cp := cp) (C := C) (R := R) (n := n) (cap := cap) (k := k) hR.1 (by omega) hC.1 (by omega) h hs)
  have hsh := shl_eq' (R * C) (by omega)
  have hp := (pow4_le' (R * C) (by omega)).2
  have HPL := Lib.hid (fun j (hj : j < R) => show j * C + C ≤ R * C by have := Nat.mul_le_mul_right C (Nat.succ_le_of_lt hj); rw [Nat.succ_mul] at this; exact this)
  have hn1 : 1 ≤ R * C := Nat.mul_le_mul hR.1 hC.1
  have HLL := Lib.hid (fun (k : Nat) => show (lowD (k : Int) (R * C)).length = R * C from lowD_length _ _)
  obtain ⟨B, hB⟩ : ∃ B, B = pqB R C := ⟨_, rfl⟩
  obtain ⟨K, hK⟩ : ∃ K, K = pow4' (R * C) := ⟨_, rfl⟩
  obtain ⟨D, hD⟩ : ∃ D : Nat → List Int, D = fun k : Nat => lowD (k : Int) (R * C) := ⟨_, rfl⟩
  have hDk : ∀ k : Nat, lowD (k : Int) (R * C) = D k := fun k => by rw [hD]
  simp only [hDk] at HW HIR HLL
  obtain ⟨n, hn⟩ : ∃ n, n = R * C := ⟨_, rfl⟩
  rw [← hB] at HP HST HLEN ⊢
  rw [← hK] at HW hp hsh ⊢
  rw [← hn] at HW hsh hN HPL hn1 HLL
  have e1 : (R : Int) * (C : Int) = (n : Int) := by rw [hn]; push_cast; rfl
  have e2 : 2 * (R : Int) * (C : Int) = 2 * (n : Int) := by rw [Int.mul_assoc, e1]
  have r1 := hR.2
  have r2 := hC.2
  have r3 := hC.1
  have r4 := hR.1
  clear hB hK hD hDk hn hR hC
  obtain ⟨i0, hi, hz0, hz1, hz2⟩ := info_parts infoRow
  have HII := Lib.hid hi
  have HZ0 := Lib.hid hz0
  have HZ1 := Lib.hid hz1
  have HZ2 := Lib.hid hz2
  clear hi hz0 hz1 hz2
  go_enter Try.func27, Try.ntmps27
  go_wp2_with fail
  refine (HI1.out _).mono ?_
  rintro e w1 ⟨rfl, rfl⟩
  go_wp2_with fail
  refine (HI2.out _).mono ?_
  rintro e w1 ⟨rfl, rfl⟩
  go_wp2_with fail
  go_loopw [7, 6] (fun i c wr => ∃ k : Nat, k ≤ K ∧ i = .int .i64 k ∧ c = .int .i64 (((rkL B k).length : Nat) : Int) ∧ Below w.heap.size w wr) (fun i _ _ => K - (intOf i).toNat)
  case atStart => exact ⟨0, Nat.zero_le _, rfl, rfl, Below.refl _ _⟩
  case round =>
    obtain ⟨k, hk, rfl, rfl, hbel⟩ := hrel
    have HBEL := Lib.hid hbel
    clear hbel
    by_cases hlt : k < K
    · have h0 : (0 : Int) ≤ (k : Int) := by omega
      have h1 : (k : Int) < (K : Int) := by omega
      have HWk := Lib.hid (HW.out k hlt)
      have HPk := Lib.hid (fun v w h => HP.out k v w h)
      have HIk := Lib.hid (fun w B g b cp n cap h hs => HIR.out w B g b cp n cap k h hs)
      have hs := HST.out k
      have hl := HLEN.out k
      have hll := HLL.out k
      obtain ⟨Lk, hLk⟩ : ∃ L, L = rkL B k := ⟨_, rfl⟩
      obtain ⟨c, hc⟩ : ∃ c, c = B k := ⟨_, rfl⟩
      obtain ⟨l, hld⟩ : ∃ l, l = D k := ⟨_, rfl⟩
      rw [← hLk] at hs hl ⊢
      rw [← hc] at hs HPk
      rw [← hld] at HWk HIk hll
      have HS := Lib.hid hs
      clear hs hLk hc hld
      go_wp2_with fail
      refine (HWk.out _).mono ?_
      rintro e w2 ⟨v2, rfl, ho2, hb2⟩
      have hne : l ≠ [] := fun e => by rw [e] at hll; simp at hll; omega
      obtain ⟨g, cap, rfl, hgw, hcap⟩ : ∃ g cap, v2 = .slice (some ⟨g, 0, none⟩) l.length cap ∧ g < w2.heap.size ∧ l.length ≤ cap := by
        rcases ho2.2 with ⟨_, h0⟩ | ⟨g, cap, cur, hv, _, hh, hcc, _⟩
        · exact absurd (List.length_eq_zero_iff.1 h0) hne
        · exact ⟨g, cap, hv, (Array.getElem?_eq_some_iff.1 hh).1, hcc⟩
      rw [hll] at hcap ⊢
      have his := ho2.is
      rw [hll] at his
      have HIS := Lib.hid his
      have HBEL2 := Lib.hid (joins HBEL.out hb2)
      clear ho2 hb2 his
      go_wp2_with fail
      go_loopw [10, 9] (fun i o wr' => ∃ j : Nat, j ≤ R ∧ i = .int .i64 j ∧ wr'.ownsRow w2.heap.size 35 1 o j (rsV g C cap j) ∧ Below w2.heap.size w2 wr') (fun i _ _ => R - (intOf i).toNat)
      case atStart => exact ⟨0, Nat.zero_le _, rfl, World.ownsRow_nil _ _ _ _, Below.refl _ _⟩
      case round =>
        obtain ⟨j, hj, rfl, hown, hbel⟩ := hrel
        have HB3 := Lib.hid hbel
        have HO3 := Lib.hid hown
        clear hown hbel
        by_cases hjl : j < R
        · have j0 : (0 : Int) ≤ (j : Int) := by omega
          have j1 : (j : Int) < (R : Int) := by omega
          have hpl := HPL.out j hjl
          obtain ⟨t, ht⟩ : ∃ t, t = j * C := ⟨_, rfl⟩
          rw [← ht] at hpl
          have e3 : (j : Int) * (C : Int) = (t : Int) := by rw [ht]; push_cast; rfl
          have e4 : ((j : Int) + 1) * (C : Int) = (t : Int) + (C : Int) := by rw [Int.add_mul, e3, Int.one_mul]
          have HT := Lib.hid ht
          clear ht
          go_wp2_with (first
            | (refine wpList_cut rfl (.tmp 45) (.tmp 48) (.tmp 52) rfl g n cap rfl t (t + C) _ _ rfl rfl rfl (by push_cast; rfl) (by omega) (by omega) (by omega) ?_)
            | (at_builtin; refine wpList_append_own _ rfl (.tmp 44) (.tmp 54) 22 rfl w2.heap.size 35 i0 (.slice none 0 0) 1 24 Try.underlying22 HII.out HZ0.out HZ1.out HZ2.out rfl (by decide) _ j (rsV g C cap j) rfl (HO3.out.alloc _) ⟨wr.heap.size, 0, none⟩ 1 1 [_] rfl rfl (cell_one_new _ _ _) (by simp [Value.oneCell']) (by unfold maxLen; omega) (by omega) (by have := HB3.out.size; simp; omega) ?_; intro v5 w5 ho5 hg5 _))
          have hB5 := (belowa HB3.out (.cells #[.slice (some ⟨g, t, none⟩) C (cap - t)] 35)).grown hg5 (by have := HB3.out.size; simp; omega) (fun k hk => (HO3.out.lt k hk).1)
          have hO5 : w5.ownsRow w2.heap.size 35 1 v5 (j + 1) (rsV g C cap (j + 1)) := by
            rw [rsV_succ, ← HT.out]
            first
              | exact ho5
              | (rw [Nat.add_sub_cancel_left] at ho5; exact ho5)
          go_roundw
          case rel => exact ⟨j + 1, by omega, by go_num, hO5, hB5⟩
          case measure => simp [intOf]; omega
        · obtain rfl : j = R := by omega
          obtain ⟨b, cp, hv, hbs⟩ : ∃ b cp, u9 = .slice (some ⟨b, 0, none⟩) j cp ∧ b < wr.heap.size := by
            rcases HO3.out.2 with ⟨_, h0⟩ | ⟨b, cp, cur, hv, _, hh, _⟩
            · omega
            · exact ⟨b, cp, hv, (Array.getElem?_eq_some_iff.1 hh).1⟩
          subst hv
          have HB4 := Lib.hid (joins HBEL2.out HB3.out)
          have HPP := Lib.hid (HPk.out _ wr (HIk.out wr w2.heap.size g b cp n cap HO3.out (HIS.out.below HB3.out)))
          go_wp2_with fail
          refine (HPP.out).mono ?_
          rintro e w6 ⟨rfl, hb6⟩
          have HB6 := Lib.hid (joins HB4.out hb6)
          clear hb6
          cases c with
          | true =>
            go_wp2_with fail
            go_roundw
            case rel => exact ⟨k + 1, by omega, by go_num, by rw [HS.out]; simp, HB6.out⟩
            case measure => simp [intOf]; omega
          | false =>
            go_wp2_with fail
            go_roundw
            case rel => exact ⟨k + 1, by omega, by go_num, by rw [HS.out]; simp, HB6.out⟩
            case measure => simp [intOf]; omega
    · have he : k = K := by omega
      subst he
      go_wp2_with fail
      go_returns
      exact ⟨rfl, HBEL.out⟩

set_option maxHeartbeats 2000000 in
theorem scountPerfectArrays (a b : Int) (w : World) : Calls Try.prog 27 #[.int .i64 a, .int .i64 b] w (Ret w (.tuple #[.int .i64 (caC a b), .bool (caOk a b)])) := by
  have HC := Lib.hid (fun (x : Int) w => show Calls Try.prog 52 #[.int .i64 x, .int .i64 1, .int .i64 6] w (Pure w (.bool (inB x 1 6))) from l1In_any x 1 6 w)
  by_cases ha : 1 ≤ a ∧ a ≤ 6
  · by_cases hb : 1 ≤ b ∧ b ≤ 6
    · obtain ⟨R, rfl⟩ := Int.eq_ofNat_of_zero_le (show 0 ≤ a by omega)
      obtain ⟨C, rfl⟩ := Int.eq_ofNat_of_zero_le (show 0 ≤ b by omega)
      have hR : 1 ≤ R ∧ R ≤ 6 := by omega
      have hCC : 1 ≤ C ∧ C ≤ 6 := by omega
      by_cases h6 : R * C ≤ 6
      · have hok : caOk R C = true := by rw [caOk_nat, decide_eq_true hR, decide_eq_true hCC, decide_eq_true h6]; rfl
        have hc : caC R C = (rkL (pqB R C) (pow4' (R * C))).length := by unfold caC; rw [hok]; rfl
        rw [hok, hc]
        exact spaYes R C hR hCC h6 w
      · have H1 := Lib.hid (HC.out R)
        have H2 := Lib.hid (HC.out C)
        rw [show inB (R : Int) 1 6 = true by simp [inB]; omega] at H1
        rw [show inB (C : Int) 1 6 = true by simp [inB]; omega] at H2
        have hok : caOk R C = false := by rw [caOk_nat, decide_eq_false h6]; simp
        have hc : caC R C = 0 := by unfold caC; rw [hok]; rfl
        rw [hok, hc]
        obtain ⟨n, hn⟩ : ∃ n, n = R * C := ⟨_, rfl⟩
        have e1 : (R : Int) * (C : Int) = (n : Int) := by rw [hn]; push_cast; rfl
        have e2 : n ≤ 36 := by rw [hn]; exact Nat.mul_le_mul hR.2 hCC.2
        have e3 : 6 < n := by rw [hn]; omega
        clear hc hok hn ha hb hR hCC HC h6
        go_enter Try.func27, Try.ntmps27
        go_wp2_with fail
        refine (H1.out _).mono ?_
        rintro e w1 ⟨rfl, rfl⟩
        go_wp2_with fail
        refine (H2.out _).mono ?_
        rintro e w1 ⟨rfl, rfl⟩
        go_wp2_with fail
        go_returns
        exact ⟨rfl, by go_grown⟩
    · have H1 := Lib.hid (HC.out a)
      have H2 := Lib.hid (HC.out b)
      rw [show inB a 1 6 = true by simp [inB]; omega] at H1
      rw [show inB b 1 6 = false by unfold inB; rw [← Bool.decide_and, decide_eq_false hb]] at H2
      have hok : caOk a b = false := by unfold caOk; rw [decide_eq_false hb]; simp
      have hc : caC a b = 0 := by unfold caC; rw [hok]; rfl
      rw [hok, hc]
      clear hc hok ha hb HC
      go_enter Try.func27, Try.ntmps27
      go_wp2_with fail
      refine (H1.out _).mono ?_
      rintro e w1 ⟨rfl, rfl⟩
      go_wp2_with fail
      refine (H2.out _).mono ?_
      rintro e w1 ⟨rfl, rfl⟩
      go_wp2_with fail
      go_returns
      exact ⟨rfl, by go_grown⟩
  · have H1 := Lib.hid (HC.out a)
    rw [show inB a 1 6 = false by unfold inB; rw [← Bool.decide_and, decide_eq_false ha]] at H1
    have hok : caOk a b = false := by unfold caOk; rw [decide_eq_false ha]; rfl
    have hc : caC a b = 0 := by unfold caC; rw [hok]; rfl
    rw [hok, hc]
    clear hc hok ha HC
    go_enter Try.func27, Try.ntmps27
    go_wp2_with fail
    refine (H1.out _).mono ?_
    rintro e w1 ⟨rfl, rfl⟩
    go_wp2_with fail
    go_returns
    exact ⟨rfl, by go_grown⟩
end Go.Proofs.Ytjoepdflbbcliab
