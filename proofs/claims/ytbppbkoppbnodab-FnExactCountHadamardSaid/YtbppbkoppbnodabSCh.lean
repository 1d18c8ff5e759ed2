/- The model's CountHadamard. -/
import Derived.Test.YtbppbkoppbnodabChM
import Derived.Test.YtbppbkoppbnodabSHaF
import Derived.Test.YtbppbkoppbnodabWith
import Derived.Test.YtbppbkoppbnodabRwL
namespace Go.Proofs.Ytbppbkoppbnodab
set_option maxRecDepth 100000
open Go.RowKit

/-- One value more at the end of a list of slices of the call's own. -/
theorem wpList_pushV {ops : Array Oper} {rest : List Oper} {o : Oper} {a : Act} {w : World} {Q : Exit → Act → World → Prop} (hg : o.guard = none) (s x : Operand)
    (ho : o.op = .call { callee := .builtin .append, args := #[s, x], argTypes := #[22, 22] }) (B : Nat) (v : Value) (n : Nat) (rs : List Value) (hs : a.eval s = v) (hown : w.ownsRow B 40 1 v n rs)
    (g c : Nat) (r : Value) (hx : a.eval x = .slice (some ⟨g, 0, none⟩) 1 c) (hc : w.cell? ⟨g, 0, none⟩ = some r) (h1 : r.oneCell' = true) (hlen : n ≤ 1048576)
    (S : Nat) (w0 : World) (hb : Below S w0 w) (hS : S ≤ B) (hB : B ≤ w.heap.size) (hSw : S ≤ w.heap.size)
    (hK : ∀ v' w', w'.ownsRow B 40 1 v' (n + 1) (rs ++ [r]) → Below S w0 w' → wpList Try.prog ops Q rest (a.put o.dst v') w') : wpList Try.prog ops Q (o :: rest) a w := by
  obtain ⟨i0, hi, hz0, hz1, hz2⟩ := info_parts infoRow
  refine wpList_append_own_at (P := Try.prog) (w := w) hg s x 22 ho B 40 i0 (.slice none 0 0) 1 24 Try.underlying22 hi hz0 hz1 hz2 rfl (by decide) v n rs hs hown ⟨g, 0, none⟩ 1 c [r] hx rfl ?_ ?_ ?_ ?_ hB ?_
  · intro j u hj
    match j, hj with
    | 0, hj => simp at hj; subst hj; simpa [Addr.add] using hc
  · intro u hu; simp at hu; subst hu; exact h1
  · unfold maxLen; omega
  · omega
  · intro v' w' hown' hgr _ _
    exact hK v' w' hown' (hb.grown hgr hSw (fun k hk => Nat.le_trans hS (hown.lt k hk).1))
def rsL (g n cap : Nat) (k : Nat) : List Value := (List.range k).map (fun i => Value.slice (some ⟨g, i * n, none⟩) n (cap - i * n))
theorem rsL_succ (g n cap k : Nat) : rsL g n cap (k + 1) = rsL g n cap k ++ [.slice (some ⟨g, k * n, none⟩) n (cap - k * n)] := by simp [rsL, List.range_succ]
theorem rsL_len (g n cap k : Nat) : (rsL g n cap k).length = k := by simp [rsL]
/-- Slices of one list, one after the other, read as the rows of a code. -/
theorem rows_IR {w : World} {B g n cap code : Nat} {v : Value} (h1 : 1 ≤ n) (h3 : n ≤ 3) (ha : IS w (.slice (some ⟨g, 0, none⟩) (n * n) cap) (lowD (code : Int) (n * n))) (ho : w.ownsRow B 40 1 v n (rsL g n cap n)) : IR w v (cdM n code) := by
  have hl := cd_len n code
  have ho' := ho
  rcases ho.2 with ⟨_, h0⟩ | ⟨b, cp, cur, rfl, hg, hh, hn, hcap, hsz, htake⟩
  · omega
  · refine Or.inr ⟨fun e => by rw [e] at hl; simp at hl; omega, b, 0, cp, by rw [hl], by rw [hl]; unfold maxLen; omega, fun i hi => ?_⟩
    rw [hl] at hi
    refine ⟨.slice (some ⟨g, i * n, none⟩) n (cap - i * n), ?_, ?_⟩
    · rw [Nat.zero_add, ho'.cellAt i (by omega)]
      simp [rsL, hi]
    · have hrow : (cdM n code).getD i [] = gen n (fun j => (lowD (code : Int) (n * n)).getD (i * n + j) 0) := by unfold cdM; rw [genR_getD _ _ _ hi]
      rw [hrow]
      refine Or.inr ⟨fun e => by have := congrArg List.length e; rw [gen_length] at this; simp at this; omega, g, i * n, cap - i * n, by rw [gen_length], by rw [gen_length]; unfold maxLen; omega, fun j hj => ?_⟩
      rw [gen_length] at hj
      have hb : (i + 1) * n ≤ n * n := Nat.mul_le_mul_right n hi
      rw [Nat.succ_mul] at hb
      rcases ha with ⟨h0, _⟩ | ⟨_, b', off', cap', hv, _, hcell⟩
      · have := congrArg List.length h0; rw [lowD_length] at this; simp at this; omega
      · simp only [Value.slice.injEq, Option.some.injEq, Addr.mk.injEq, and_true] at hv
        obtain ⟨⟨rfl, rfl⟩, _⟩ := hv
        have := hcell (i * n + j) (by rw [lowD_length]; omega)
        rw [Nat.zero_add] at this
        rw [this, gen_getD _ _ _ hj]
set_option maxRecDepth 100000 in
set_option maxHeartbeats 4000000 in
theorem scount1 (w : World) : Calls Try.prog 25 #[.int .i64 1] w (Ret w (.tuple #[.int .i64 (cntN (cdB 1) 4 : Nat), .bool true])) := by
  obtain ⟨N, hN⟩ : ∃ N, N = 4 := ⟨_, rfl⟩
  rw [← hN]
  have HPW := Lib.hid (fun (c : Nat) (hc : c < N) => phWith_any 1 (by omega) (c : Int) (by omega) (by omega))
  have HIS := Lib.hid (fun (c : Nat) (v : Value) (w' : World) (h : IR w' v (cdM 1 c)) => haIs_any v _ w' h (cd_ok 1 c (by omega) (by omega)))
  have HLD := Lib.hid (fun c : Nat => lowD_length (c : Int) 1)
  obtain ⟨p, hp⟩ : ∃ p, p = cdB 1 := ⟨_, rfl⟩
  have HPB := Lib.hid (fun c : Nat => show haB (cdM 1 c) = p c by rw [hp]; rfl)
  rw [← hp]
  have HSS := Lib.hid (fun k => show cntN p (k + 1) = cntN p k + (if p k then 1 else 0) from rfl)
  have HSB := Lib.hid (fun k => cntN_le p k)
  obtain ⟨S, hS⟩ : ∃ S, S = cntN p := ⟨_, rfl⟩
  rw [← hS] at HSS HSB ⊢
  have HS0 := Lib.hid (show S 0 = 0 by rw [hS]; rfl)
  have HI := Lib.hid (l1In_any 1 1 3)
  rw [show inB 1 1 3 = true from rfl] at HI
  clear hp hS
  have B0 := Lib.hid (Below.refl w.heap.size w)
  go_enter Try.func25, Try.ntmps25
  go_wp2_with fail
  refine (HI.out _).mono ?_
  rintro e w' ⟨rfl, rfl⟩
  go_wp2_with fail
  go_loopw [5, 4] (fun q s wr => ∃ c : Nat, c ≤ N ∧ q = .int .i64 c ∧ s = .int .i64 (S c : Nat) ∧ Below w.heap.size w wr) (fun q _ _ => N - (intOf q).toNat)
  case atStart => exact ⟨0, Nat.zero_le _, rfl, by rw [HS0.out]; rfl, B0.out⟩
  case round =>
    obtain ⟨c, hc, rfl, rfl, hbel⟩ := hrel
    have BR := Lib.hid hbel
    clear hbel
    generalize hwo : wr = wo at *
    clear hwo
    by_cases hlt : c < N
    · have h0 : (0 : Int) ≤ (c : Int) := by omega
      have h1 : (c : Int) < 4 := by omega
      have HP1 := Lib.hid (HPW.out c hlt)
      go_wp2_with fail
      refine (HP1.out _).mono ?_
      rintro e w2 ⟨v2, rfl, ho2, hb2⟩
      have hcs := ho2.cases
      rcases hcs with ⟨hnil, _⟩ | ⟨g, cap, rfl, hg1, hg2⟩
      · have := HLD.out c; rw [hnil] at this; simp at this
      rw [HLD.out] at ho2 ⊢
      have hcap : 1 ≤ cap := by
        rcases ho2.2 with ⟨hh, _⟩ | ⟨g', cap', cur, hv, _, _, hn, _⟩
        · cases hh
        · simp only [Value.slice.injEq] at hv; obtain ⟨_, _, rfl⟩ := hv; have h9 := HLD.out c; omega
      have hcap2 : (cap : Int) ≤ 9223372036854775807 := by
        have hm := maxLen_val
        rcases ho2.2 with ⟨hh, _⟩ | ⟨g', cap', cur, hv, _, _, _, hcm, _⟩
        · cases hh
        · simp only [Value.slice.injEq] at hv; obtain ⟨_, _, rfl⟩ := hv; omega
      have HIA := Lib.hid ho2.is
      have BW2 := Lib.hid (joins BR.out hb2)
      have LW := Lib.hid (show w.heap.size ≤ w2.heap.size from BW2.out.size)
      clear ho2 hb2 hg1 hg2
      go_wp2_with fail
      go_loopw [8, 7] (fun q m wr => ∃ i : Nat, i ≤ 1 ∧ q = .int .i64 i ∧ wr.ownsRow w2.heap.size 40 1 m i (rsL g 1 cap i) ∧ Below w2.heap.size w2 wr) (fun q _ _ => 1 - (intOf q).toNat)
      case atStart => exact ⟨0, Nat.zero_le _, rfl, World.ownsRow_nil _ _ _ _, Below.refl _ _⟩
      case round =>
        obtain ⟨i, hi, rfl, hown, hbw⟩ := hrel
        have HO := Lib.hid hown
        have BW := Lib.hid hbw
        clear hown hbw
        by_cases hli : i < 1
        · have h0i : (0 : Int) ≤ (i : Int) := by omega
          have h1i : (i : Int) < 1 := by omega
          have hcI : (1 : Int) ≤ (cap : Int) := by omega
          go_wp2_with (first
            | (at_builtin; refine wpList_pushV rfl _ _ rfl w2.heap.size _ i (rsL g 1 cap i) rfl (World.ownsRow.alloc HO.out _) wr.heap.size 1 (.slice (some ⟨g, i, none⟩) 1 (cap - i)) rfl (by simp) rfl (by omega) w2.heap.size w2 (BW.out.alloc BW.out.size _) (Nat.le_refl _) (by have := BW.out.size; simp; omega) (by have := BW.out.size; simp; omega) ?_; intro v3 w3 ho3 hb3))
          go_roundw
          case rel => exact ⟨i + 1, by omega, by go_num, by rw [rsL_succ, Nat.mul_one]; exact ho3, hb3⟩
          case measure => simp [intOf]; omega
        · obtain rfl : i = 1 := by omega
          have hir := rows_IR (code := c) (by omega) (by omega) (HIA.out.below BW.out) HO.out
          have HIS1 := Lib.hid (HIS.out c _ wr hir)
          rw [HPB.out] at HIS1
          have hss := HSS.out c
          have hsb := HSB.out (c + 1)
          obtain ⟨x, hx⟩ : ∃ x, x = S c := ⟨_, rfl⟩
          rw [← hx] at hss ⊢
          have hx2 : x ≤ 262144 := by have := HSB.out c; omega
          clear hir hx hsb
          cases hpc : p c with
          | true =>
            rw [hpc] at HIS1 hss
            simp only [if_true] at hss
            have HS1 := Lib.hid hss
            clear hss hpc
            go_wp2_with fail
            refine (HIS1.out).mono ?_
            rintro e w4 ⟨rfl, hb⟩
            have B4 := Lib.hid (joins (joins BW2.out BW.out) hb)
            clear hb
            go_wp2_with fail
            go_roundw
            case rel => exact ⟨c + 1, by omega, by go_num, by rw [HS1.out]; push_cast; rfl, B4.out⟩
            case measure => simp [intOf]; omega
          | false =>
            rw [hpc] at HIS1 hss
            simp only [Bool.false_eq_true, if_false, Nat.add_zero] at hss
            have HS1 := Lib.hid hss
            clear hss hpc
            go_wp2_with fail
            refine (HIS1.out).mono ?_
            rintro e w4 ⟨rfl, hb⟩
            have B4 := Lib.hid (joins (joins BW2.out BW.out) hb)
            clear hb
            go_wp2_with fail
            go_roundw
            case rel => exact ⟨c + 1, by omega, by go_num, by rw [HS1.out], B4.out⟩
            case measure => simp [intOf]; omega
    · obtain rfl : c = N := by omega
      go_wp2_with fail
      go_returns
      exact ⟨rfl, BR.out⟩
set_option maxRecDepth 100000 in
set_option maxHeartbeats 4000000 in
theorem scount2 (w : World) : Calls Try.prog 25 #[.int .i64 2] w (Ret w (.tuple #[.int .i64 (cntN (cdB 2) 256 : Nat), .bool true])) := by
  obtain ⟨N, hN⟩ : ∃ N, N = 256 := ⟨_, rfl⟩
  rw [← hN]
  have HPW := Lib.hid (fun (c : Nat) (hc : c < N) => phWith_any 4 (by omega) (c : Int) (by omega) (by omega))
  have HIS := Lib.hid (fun (c : Nat) (v : Value) (w' : World) (h : IR w' v (cdM 2 c)) => haIs_any v _ w' h (cd_ok 2 c (by omega) (by omega)))
  have HLD := Lib.hid (fun c : Nat => lowD_length (c : Int) 4)
  obtain ⟨p, hp⟩ : ∃ p, p = cdB 2 := ⟨_, rfl⟩
  have HPB := Lib.hid (fun c : Nat => show haB (cdM 2 c) = p c by rw [hp]; rfl)
  rw [← hp]
  have HSS := Lib.hid (fun k => show cntN p (k + 1) = cntN p k + (if p k then 1 else 0) from rfl)
  have HSB := Lib.hid (fun k => cntN_le p k)
  obtain ⟨S, hS⟩ : ∃ S, S = cntN p := ⟨_, rfl⟩
  rw [← hS] at HSS HSB ⊢
  have HS0 := Lib.hid (show S 0 = 0 by rw [hS]; rfl)
  have HI := Lib.hid (l1In_any 2 1 3)
  rw [show inB 2 1 3 = true from rfl] at HI
  clear hp hS
  have B0 := Lib.hid (Below.refl w.heap.size w)
  go_enter Try.func25, Try.ntmps25
  go_wp2_with fail
  refine (HI.out _).mono ?_
  rintro e w' ⟨rfl, rfl⟩
  go_wp2_with fail
  go_loopw [5, 4] (fun q s wr => ∃ c : Nat, c ≤ N ∧ q = .int .i64 c ∧ s = .int .i64 (S c : Nat) ∧ Below w.heap.size w wr) (fun q _ _ => N - (intOf q).toNat)
  case atStart => exact ⟨0, Nat.zero_le _, rfl, by rw [HS0.out]; rfl, B0.out⟩
  case round =>
    obtain ⟨c, hc, rfl, rfl, hbel⟩ := hrel
    have BR := Lib.hid hbel
    clear hbel
    generalize hwo : wr = wo at *
    clear hwo
    by_cases hlt : c < N
    · have h0 : (0 : Int) ≤ (c : Int) := by omega
      have h1 : (c : Int) < 256 := by omega
      have HP1 := Lib.hid (HPW.out c hlt)
      go_wp2_with fail
      refine (HP1.out _).mono ?_
      rintro e w2 ⟨v2, rfl, ho2, hb2⟩
      have hcs := ho2.cases
      rcases hcs with ⟨hnil, _⟩ | ⟨g, cap, rfl, hg1, hg2⟩
      · have := HLD.out c; rw [hnil] at this; simp at this
      rw [HLD.out] at ho2 ⊢
      have hcap : 4 ≤ cap := by
        rcases ho2.2 with ⟨hh, _⟩ | ⟨g', cap', cur, hv, _, _, hn, _⟩
        · cases hh
        · simp only [Value.slice.injEq] at hv; obtain ⟨_, _, rfl⟩ := hv; have h9 := HLD.out c; omega
      have hcap2 : (cap : Int) ≤ 9223372036854775807 := by
        have hm := maxLen_val
        rcases ho2.2 with ⟨hh, _⟩ | ⟨g', cap', cur, hv, _, _, _, hcm, _⟩
        · cases hh
        · simp only [Value.slice.injEq] at hv; obtain ⟨_, _, rfl⟩ := hv; omega
      have HIA := Lib.hid ho2.is
      have BW2 := Lib.hid (joins BR.out hb2)
      have LW := Lib.hid (show w.heap.size ≤ w2.heap.size from BW2.out.size)
      clear ho2 hb2 hg1 hg2
      go_wp2_with fail
      go_loopw [8, 7] (fun q m wr => ∃ i : Nat, i ≤ 2 ∧ q = .int .i64 i ∧ wr.ownsRow w2.heap.size 40 1 m i (rsL g 2 cap i) ∧ Below w2.heap.size w2 wr) (fun q _ _ => 2 - (intOf q).toNat)
      case atStart => exact ⟨0, Nat.zero_le _, rfl, World.ownsRow_nil _ _ _ _, Below.refl _ _⟩
      case round =>
        obtain ⟨i, hi, rfl, hown, hbw⟩ := hrel
        have HO := Lib.hid hown
        have BW := Lib.hid hbw
        clear hown hbw
        by_cases hli : i < 2
        · have h0i : (0 : Int) ≤ (i : Int) := by omega
          have h1i : (i : Int) < 2 := by omega
          have hcI : (4 : Int) ≤ (cap : Int) := by omega
          go_wp2_with (first
            | (at_builtin; refine wpList_pushV rfl _ _ rfl w2.heap.size _ i (rsL g 2 cap i) rfl (World.ownsRow.alloc HO.out _) wr.heap.size 1 (.slice (some ⟨g, i * 2, none⟩) 2 (cap - i * 2)) rfl (by simp) rfl (by omega) w2.heap.size w2 (BW.out.alloc BW.out.size _) (Nat.le_refl _) (by have := BW.out.size; simp; omega) (by have := BW.out.size; simp; omega) ?_; intro v3 w3 ho3 hb3))
          go_roundw
          case rel => exact ⟨i + 1, by omega, by go_num, by rw [rsL_succ]; exact ho3, hb3⟩
          case measure => simp [intOf]; omega
        · obtain rfl : i = 2 := by omega
          have hir := rows_IR (code := c) (by omega) (by omega) (HIA.out.below BW.out) HO.out
          have HIS1 := Lib.hid (HIS.out c _ wr hir)
          rw [HPB.out] at HIS1
          have hss := HSS.out c
          have hsb := HSB.out (c + 1)
          obtain ⟨x, hx⟩ : ∃ x, x = S c := ⟨_, rfl⟩
          rw [← hx] at hss ⊢
          have hx2 : x ≤ 262144 := by have := HSB.out c; omega
          clear hir hx hsb
          cases hpc : p c with
          | true =>
            rw [hpc] at HIS1 hss
            simp only [if_true] at hss
            have HS1 := Lib.hid hss
            clear hss hpc
            go_wp2_with fail
            refine (HIS1.out).mono ?_
            rintro e w4 ⟨rfl, hb⟩
            have B4 := Lib.hid (joins (joins BW2.out BW.out) hb)
            clear hb
            go_wp2_with fail
            go_roundw
            case rel => exact ⟨c + 1, by omega, by go_num, by rw [HS1.out]; push_cast; rfl, B4.out⟩
            case measure => simp [intOf]; omega
          | false =>
            rw [hpc] at HIS1 hss
            simp only [Bool.false_eq_true, if_false, Nat.add_zero] at hss
            have HS1 := Lib.hid hss
            clear hss hpc
            go_wp2_with fail
            refine (HIS1.out).mono ?_
            rintro e w4 ⟨rfl, hb⟩
            have B4 := Lib.hid (joins (joins BW2.out BW.out) hb)
            clear hb
            go_wp2_with fail
            go_roundw
            case rel => exact ⟨c + 1, by omega, by go_num, by rw [HS1.out], B4.out⟩
            case measure => simp [intOf]; omega
    · obtain rfl : c = N := by omega
      go_wp2_with fail
      go_returns
      exact ⟨rfl, BR.out⟩
set_option maxRecDepth 100000 in
set_option maxHeartbeats 4000000 in
theorem scount3 (w : World) : Calls Try.prog 25 #[.int .i64 3] w (Ret w (.tuple #[.int .i64 (cntN (cdB 3) 262144 : Nat), .bool true])) := by
  obtain ⟨N, hN⟩ : ∃ N, N = 262144 := ⟨_, rfl⟩
  rw [← hN]
  have HPW := Lib.hid (fun (c : Nat) (hc : c < N) => phWith_any 9 (by omega) (c : Int) (by omega) (by omega))
  have HIS := Lib.hid (fun (c : Nat) (v : Value) (w' : World) (h : IR w' v (cdM 3 c)) => haIs_any v _ w' h (cd_ok 3 c (by omega) (by omega)))
  have HLD := Lib.hid (fun c : Nat => lowD_length (c : Int) 9)
  obtain ⟨p, hp⟩ : ∃ p, p = cdB 3 := ⟨_, rfl⟩
  have HPB := Lib.hid (fun c : Nat => show haB (cdM 3 c) = p c by rw [hp]; rfl)
  rw [← hp]
  have HSS := Lib.hid (fun k => show cntN p (k + 1) = cntN p k + (if p k then 1 else 0) from rfl)
  have HSB := Lib.hid (fun k => cntN_le p k)
  obtain ⟨S, hS⟩ : ∃ S, S = cntN p := ⟨_, rfl⟩
  rw [← hS] at HSS HSB ⊢
  have HS0 := Lib.hid (show S 0 = 0 by rw [hS]; rfl)
  have HI := Lib.hid (l1In_any 3 1 3)
  rw [show inB 3 1 3 = true from rfl] at HI
  clear hp hS
  have B0 := Lib.hid (Below.refl w.heap.size w)
  go_enter Try.func25, Try.ntmps25
  go_wp2_with fail
  refine (HI.out _).mono ?_
  rintro e w' ⟨rfl, rfl⟩
  go_wp2_with fail
  go_loopw [5, 4] (fun q s wr => ∃ c : Nat, c ≤ N ∧ q = .int .i64 c ∧ s = .int .i64 (S c : Nat) ∧ Below w.heap.size w wr) (fun q _ _ => N - (intOf q).toNat)
  case atStart => exact ⟨0, Nat.zero_le _, rfl, by rw [HS0.out]; rfl, B0.out⟩
  case round =>
    obtain ⟨c, hc, rfl, rfl, hbel⟩ := hrel
    have BR := Lib.hid hbel
    clear hbel
    generalize hwo : wr = wo at *
    clear hwo
    by_cases hlt : c < N
    · have h0 : (0 : Int) ≤ (c : Int) := by omega
      have h1 : (c : Int) < 262144 := by omega
      have HP1 := Lib.hid (HPW.out c hlt)
      go_wp2_with fail
      refine (HP1.out _).mono ?_
      rintro e w2 ⟨v2, rfl, ho2, hb2⟩
      have hcs := ho2.cases
      rcases hcs with ⟨hnil, _⟩ | ⟨g, cap, rfl, hg1, hg2⟩
      · have := HLD.out c; rw [hnil] at this; simp at this
      rw [HLD.out] at ho2 ⊢
      have hcap : 9 ≤ cap := by
        rcases ho2.2 with ⟨hh, _⟩ | ⟨g', cap', cur, hv, _, _, hn, _⟩
        · cases hh
        · simp only [Value.slice.injEq] at hv; obtain ⟨_, _, rfl⟩ := hv; have h9 := HLD.out c; omega
      have hcap2 : (cap : Int) ≤ 9223372036854775807 := by
        have hm := maxLen_val
        rcases ho2.2 with ⟨hh, _⟩ | ⟨g', cap', cur, hv, _, _, _, hcm, _⟩
        · cases hh
        · simp only [Value.slice.injEq] at hv; obtain ⟨_, _, rfl⟩ := hv; omega
      have HIA := Lib.hid ho2.is
      have BW2 := Lib.hid (joins BR.out hb2)
      have LW := Lib.hid (show w.heap.size ≤ w2.heap.size from BW2.out.size)
      clear ho2 hb2 hg1 hg2
      go_wp2_with fail
      go_loopw [8, 7] (fun q m wr => ∃ i : Nat, i ≤ 3 ∧ q = .int .i64 i ∧ wr.ownsRow w2.heap.size 40 1 m i (rsL g 3 cap i) ∧ Below w2.heap.size w2 wr) (fun q _ _ => 3 - (intOf q).toNat)
      case atStart => exact ⟨0, Nat.zero_le _, rfl, World.ownsRow_nil _ _ _ _, Below.refl _ _⟩
      case round =>
        obtain ⟨i, hi, rfl, hown, hbw⟩ := hrel
        have HO := Lib.hid hown
        have BW := Lib.hid hbw
        clear hown hbw
        by_cases hli : i < 3
        · have h0i : (0 : Int) ≤ (i : Int) := by omega
          have h1i : (i : Int) < 3 := by omega
          have hcI : (9 : Int) ≤ (cap : Int) := by omega
          go_wp2_with (first
            | (at_builtin; refine wpList_pushV rfl _ _ rfl w2.heap.size _ i (rsL g 3 cap i) rfl (World.ownsRow.alloc HO.out _) wr.heap.size 1 (.slice (some ⟨g, i * 3, none⟩) 3 (cap - i * 3)) rfl (by simp) rfl (by omega) w2.heap.size w2 (BW.out.alloc BW.out.size _) (Nat.le_refl _) (by have := BW.out.size; simp; omega) (by have := BW.out.size; simp; omega) ?_; intro v3 w3 ho3 hb3))
          go_roundw
          case rel => exact ⟨i + 1, by omega, by go_num, by rw [rsL_succ]; exact ho3, hb3⟩
          case measure => simp [intOf]; omega
        · obtain rfl : i = 3 := by omega
          have hir := rows_IR (code := c) (by omega) (by omega) (HIA.out.below BW.out) HO.out
          have HIS1 := Lib.hid (HIS.out c _ wr hir)
          rw [HPB.out] at HIS1
          have hss := HSS.out c
          have hsb := HSB.out (c + 1)
          obtain ⟨x, hx⟩ : ∃ x, x = S c := ⟨_, rfl⟩
          rw [← hx] at hss ⊢
          have hx2 : x ≤ 262144 := by have := HSB.out c; omega
          clear hir hx hsb
          cases hpc : p c with
          | true =>
            rw [hpc] at HIS1 hss
            simp only [if_true] at hss
            have HS1 := Lib.hid hss
            clear hss hpc
            go_wp2_with fail
            refine (HIS1.out).mono ?_
            rintro e w4 ⟨rfl, hb⟩
            have B4 := Lib.hid (joins (joins BW2.out BW.out) hb)
            clear hb
            go_wp2_with fail
            go_roundw
            case rel => exact ⟨c + 1, by omega, by go_num, by rw [HS1.out]; push_cast; rfl, B4.out⟩
            case measure => simp [intOf]; omega
          | false =>
            rw [hpc] at HIS1 hss
            simp only [Bool.false_eq_true, if_false, Nat.add_zero] at hss
            have HS1 := Lib.hid hss
            clear hss hpc
            go_wp2_with fail
            refine (HIS1.out).mono ?_
            rintro e w4 ⟨rfl, hb⟩
            have B4 := Lib.hid (joins (joins BW2.out BW.out) hb)
            clear hb
            go_wp2_with fail
            go_roundw
            case rel => exact ⟨c + 1, by omega, by go_num, by rw [HS1.out], B4.out⟩
            case measure => simp [intOf]; omega
    · obtain rfl : c = N := by omega
      go_wp2_with fail
      go_returns
      exact ⟨rfl, BR.out⟩
theorem scountHadamard (n : Int) (w : World) : Calls Try.prog 25 #[.int .i64 n] w (Ret w (.tuple #[.int .i64 (if chOk n then chC n else 0), .bool (chOk n)])) := by
  cases hok : chOk n with
  | true =>
    have h : 1 ≤ n ∧ n ≤ 3 := of_decide_eq_true hok
    rw [if_pos rfl]
    rcases (show n = 1 ∨ n = 2 ∨ n = 3 by omega) with rfl | rfl | rfl
    · have := scount1 w; rw [cd_one] at this; exact this
    · have := scount2 w; rw [cd_two] at this; exact this
    · have := scount3 w; rw [cntN_none _ cd_three] at this; exact this
  | false =>
    have h : ¬ (1 ≤ n ∧ n ≤ 3) := of_decide_eq_false hok
    rw [if_neg (by decide)]
    have HI := l1In_any n 1 3
    rw [show inB n 1 3 = false by unfold inB; simp; omega] at HI
    have HI' := Lib.hid HI
    clear hok h HI
    go_enter Try.func25, Try.ntmps25
    go_wp2_with fail
    refine (HI'.out _).mono ?_
    rintro e w' ⟨rfl, rfl⟩
    go_wp2_with fail
    go_returns
    exact ⟨rfl, by go_grown⟩
end Go.Proofs.Ytbppbkoppbnodab
