/- The model's SendFrame. -/
import Derived.Test.YtoehehaeanepmabSMd
import Derived.Test.YtoehehaeanepmabSMo
import Derived.Deep.AppendLies
namespace Go.Proofs.Ytoehehaeanepmab
set_option maxRecDepth 100000
open Go.RowKit

/-- As wpList_push, with what stays as it is. -/
theorem wpList_pushL {ops : Array Oper} {rest : List Oper} {o : Oper} {a : Act} {w : World} {Q : Exit → Act → World → Prop} (hg : o.guard = none) (s x : Operand)
    (ho : o.op = .call { callee := .builtin .append, args := #[s, x], argTypes := #[22, 22] }) (B : Nat) (v : Value) (l : List Int) (hs : a.eval s = v) (hown : Own w B v l)
    (g c : Nat) (y : Int) (hx : a.eval x = .slice (some ⟨g, 0, none⟩) 1 c) (hc : w.cell? ⟨g, 0, none⟩ = some (.int .i64 y)) (hlen : l.length ≤ 1048576)
    (S : Nat) (w0 : World) (hb : Below S w0 w) (hS : S ≤ B) (hB : B ≤ w.heap.size) (hSw : S ≤ w.heap.size)
    (hK : ∀ v' w', Own w' B v' (l ++ [y]) → Below S w0 w' → w.grownBy w' v.ownBlock → (∀ b, b < w.heap.size → v.ownBlock ≠ some b → v'.ownBlock ≠ some b) → wpList Try.prog ops Q rest (a.put o.dst v') w') : wpList Try.prog ops Q (o :: rest) a w := by
  obtain ⟨i0, hi, hz0, hz1, hz2⟩ := info_parts infoInt
  refine wpList_append_lies (P := Try.prog) (w := w) hg s x 22 ho B 3 i0 (.int .i64 0) 1 8 Try.underlying22 hi hz0 hz1 hz2 rfl (by decide) v l.length (l.map (Value.int .i64)) hs hown ⟨g, 0, none⟩ 1 c [.int .i64 y] hx rfl ?_ ?_ (by omega) ?_ ?_ hB _ rfl ?_
  · intro j u hj
    match j, hj with
    | 0, hj => simp at hj; subst hj; simpa [Addr.add] using hc
  · intro u hu; simp at hu; subst hu; rfl
  · unfold maxLen; omega
  · omega
  · intro g' cap w' hown' hgr hblk hlt
    refine hK _ w' ?_ (hb.grown hgr hSw (fun k hk => Nat.le_trans hS (hown.lt k hk).1)) hgr (fun b hbl hne e => ?_)
    · unfold Own
      rw [List.length_append, List.map_append]
      exact hown'
    · simp only [Value.ownBlock, Option.some.injEq] at e
      subst e
      rcases hblk with h | h
      · exact hne h
      · omega
/-- The numbers of a list, in a block that is not v's own. -/
def KeepI (w : World) (o : Value) (av : Option Addr) (H : Nat) (T : Nat → Int) : Prop := ∀ i, i < H → ∃ b off, av = some ⟨b, off, none⟩ ∧ w.cell? ⟨b, off + i, none⟩ = some (.int .i64 (T i)) ∧ o.ownBlock ≠ some b
theorem KeepI.below {w w' : World} {o : Value} {av : Option Addr} {H : Nat} {T : Nat → Int} (h : KeepI w o av H T) (hb : Below w.heap.size w w') : KeepI w' o av H T := fun i hi => by
  obtain ⟨b, off, e, hc, hn⟩ := h i hi
  exact ⟨b, off, e, keepc hb hc, hn⟩
theorem KeepI.pushed {w w' : World} {o o' : Value} {av : Option Addr} {H : Nat} {T : Nat → Int} (h : KeepI w o av H T) (hg : w.grownBy w' o.ownBlock) (hn : ∀ b, b < w.heap.size → o.ownBlock ≠ some b → o'.ownBlock ≠ some b) : KeepI w' o' av H T := fun i hi => by
  obtain ⟨b, off, e, hc, hne⟩ := h i hi
  exact ⟨b, off, e, hg.cell hc (fun e => hne e.symm), hn b (World.block_lt_of_cell? w _ hc) hne⟩
theorem Own.cellAt {w : World} {B g cap n : Nat} {l : List Int} (h : Own w B (.slice (some ⟨g, 0, none⟩) n cap) l) (hn : l.length = n) (i : Nat) (hi : i < l.length) : w.cell? ⟨g, i, none⟩ = some (.int .i64 (l.getD i 0)) := by
  subst hn
  have h2 : w.ownsRow B 3 1 (.slice (some ⟨g, 0, none⟩) l.length cap) l.length (l.map (Value.int .i64)) := h
  rw [h2.cellAt i (by omega)]
  simp [List.getD, hi]
/-- The phases sent, as far as the first j steps go. -/
def sfPre (known steps : List Int) (j : Nat) : List Int := known ++ gen j (fun i => fsN (known.getD (known.length - 1) 0) steps (i + 1))
theorem sfPre_length (known steps : List Int) (j : Nat) : (sfPre known steps j).length = known.length + j := by unfold sfPre; rw [List.length_append, gen_length]
theorem sfPre_zero (known steps : List Int) : sfPre known steps 0 = known := by unfold sfPre; rw [gen_zero, List.append_nil]
theorem sfPre_last (known steps : List Int) (j : Nat) : (sfPre known steps j).getD (known.length + j - 1) 0 = fsN (known.getD (known.length - 1) 0) steps j := by
  unfold sfPre
  cases j with
  | zero => rw [gen_zero, List.append_nil]; rfl
  | succ j =>
    rw [List.getD, List.getElem?_append_right (by omega), show known.length + (j + 1) - 1 - known.length = j by omega, gen_getElem? _ _ _ (Nat.lt_succ_self j)]
    rfl
theorem sfPre_succ (known steps : List Int) (j : Nat) : sfPre known steps (j + 1) = sfPre known steps j ++ [(fsN (known.getD (known.length - 1) 0) steps j + steps.getD j 0) % 4] := by
  unfold sfPre
  rw [gen_succ, List.append_assoc]
  rfl
theorem sfPre_all (known bits : List Int) : sfPre known (moL bits) (bits.length / 2) = sfAll known bits := by
  unfold sfPre sfAll fsL
  rw [moL_length]

set_option maxRecDepth 100000 in
set_option maxHeartbeats 4000000 in
theorem sSendFrame (va vb : Value) (known bits : List Int) (k : Int) (w : World) (hva : IS w va known) (hvb : IS w vb bits) (hla : known.length ≤ 1048576) (hlb : bits.length ≤ 1048576) : Calls Try.prog 24 #[va, vb, .int .i64 k] w (MakesGB w (sfF known bits k) (sfOk known bits k)) := by
  have HP := Lib.hid (phIs_any va known w hva hla)
  have HBS := Lib.hid (fun w h => mdBits_any vb bits w h hlb)
  have HIN := Lib.hid (l1In_any k 1 1000)
  obtain ⟨pa, ca, rfl⟩ := hva.slice
  obtain ⟨pb, cb, rfl⟩ := hvb.slice
  have HVA := Lib.hid hva
  have HVB := Lib.hid hvb
  have hok : sfOk known bits k = (isSeq known && decide (1 ≤ known.length) && (bsOk bits && decide (bits.length % 2 = 0)) && inB k 1 1000 && decide (known.length + bits.length / 2 ≤ 48)) := rfl
  obtain ⟨N, hN⟩ : ∃ N, N = known.length := ⟨_, rfl⟩
  obtain ⟨M, hM⟩ : ∃ N, N = bits.length := ⟨_, rfl⟩
  obtain ⟨H, hH⟩ : ∃ N, N = M / 2 := ⟨_, rfl⟩
  rw [← hN, ← hM, ← hH] at hok
  rw [← hN] at HP HVA hla ⊢
  rw [← hM] at HBS HVB hlb ⊢
  have hM0 : (0 : Int) ≤ (M : Int) := by omega
  have hdv : (M : Int).tdiv 2 = (H : Int) := by rw [Int.tdiv_eq_ediv_of_nonneg hM0]; omega
  cases h1 : isSeq known with
  | false =>
    rw [h1] at HP
    have ho : sfOk known bits k = false := by rw [hok, h1]; rfl
    have hf : sfF known bits k = [] := by unfold sfF; rw [ho]; rfl
    rw [ho, hf]
    clear ho hf hok hva hvb hla hlb h1 hdv hM0 hN hM hH
    go_enter Try.func24, Try.ntmps24
    go_wp2_with (first
      | (refine (HP.out).mono ?_; rintro e w1 ⟨rfl, hb1⟩)
      | (refine (HBS.out _ (HVB.out.below hb1)).mono ?_; rintro e w2 ⟨rfl, hb2⟩; have hb3 := joins hb1 hb2)
      | (refine (HIN.out _).mono ?_; rintro e w' ⟨rfl, rfl⟩))
    go_returns
    exact ⟨_, rfl, OwnG.nil _ _, hb1⟩
  | true =>
  rw [h1] at HP
  by_cases h2 : 1 ≤ N
  case neg =>
    obtain rfl : N = 0 := by omega
    have ho : sfOk known bits k = false := by rw [hok, h1]; rfl
    have hf : sfF known bits k = [] := by unfold sfF; rw [ho]; rfl
    rw [ho, hf]
    clear ho hf hok hva hvb hla hlb h1 hdv hM0 hN hM hH h2
    go_enter Try.func24, Try.ntmps24
    go_wp2_with (first
      | (refine (HP.out).mono ?_; rintro e w1 ⟨rfl, hb1⟩)
      | (refine (HBS.out _ (HVB.out.below hb1)).mono ?_; rintro e w2 ⟨rfl, hb2⟩; have hb3 := joins hb1 hb2)
      | (refine (HIN.out _).mono ?_; rintro e w' ⟨rfl, rfl⟩))
    go_returns
    exact ⟨_, rfl, OwnG.nil _ _, hb1⟩
  have h2i : (1 : Int) ≤ (N : Int) := by omega
  have h2n : ((N : Int) == 0) = false := by simp; omega
  cases h3 : bsOk bits with
  | false =>
    rw [h3] at HBS
    have ho : sfOk known bits k = false := by rw [hok, h1, h3, decide_eq_true h2]; rfl
    have hf : sfF known bits k = [] := by unfold sfF; rw [ho]; rfl
    rw [ho, hf]
    clear ho hf hok hva hvb hla hlb h1 h3 hdv hM0 hN hM hH h2 h2i
    go_enter Try.func24, Try.ntmps24
    go_wp2_with (first
      | (refine (HP.out).mono ?_; rintro e w1 ⟨rfl, hb1⟩)
      | (refine (HBS.out _ (HVB.out.below hb1)).mono ?_; rintro e w2 ⟨rfl, hb2⟩; have hb3 := joins hb1 hb2)
      | (refine (HIN.out _).mono ?_; rintro e w' ⟨rfl, rfl⟩))
    go_returns
    exact ⟨_, rfl, OwnG.nil _ _, hb3⟩
  | true =>
  rw [h3] at HBS
  by_cases h4 : M % 2 = 0
  case neg =>
    have hmd : (M : Int).tmod 2 = 1 := by rw [Int.tmod_eq_emod_of_nonneg hM0]; omega
    have ho : sfOk known bits k = false := by rw [hok, h1, h3, decide_eq_true h2, decide_eq_false h4]; rfl
    have hf : sfF known bits k = [] := by unfold sfF; rw [ho]; rfl
    rw [ho, hf]
    clear ho hf hok hva hvb hla hlb h1 h3 h4 hdv hN hM hH h2 h2i
    go_enter Try.func24, Try.ntmps24
    go_wp2_with (first
      | (refine (HP.out).mono ?_; rintro e w1 ⟨rfl, hb1⟩)
      | (refine (HBS.out _ (HVB.out.below hb1)).mono ?_; rintro e w2 ⟨rfl, hb2⟩; have hb3 := joins hb1 hb2)
      | (refine (HIN.out _).mono ?_; rintro e w' ⟨rfl, rfl⟩))
    go_returns
    exact ⟨_, rfl, OwnG.nil _ _, hb3⟩
  have hmd : (M : Int).tmod 2 = 0 := by rw [Int.tmod_eq_emod_of_nonneg hM0]; omega
  cases h5 : inB k 1 1000 with
  | false =>
    rw [h5] at HIN
    have ho : sfOk known bits k = false := by rw [hok, h1, h3, h5, decide_eq_true h2, decide_eq_true h4]; rfl
    have hf : sfF known bits k = [] := by unfold sfF; rw [ho]; rfl
    rw [ho, hf]
    clear ho hf hok hva hvb hla hlb h1 h3 h4 h5 hdv hN hM hH h2 h2i
    go_enter Try.func24, Try.ntmps24
    go_wp2_with (first
      | (refine (HP.out).mono ?_; rintro e w1 ⟨rfl, hb1⟩)
      | (refine (HBS.out _ (HVB.out.below hb1)).mono ?_; rintro e w2 ⟨rfl, hb2⟩; have hb3 := joins hb1 hb2)
      | (refine (HIN.out _).mono ?_; rintro e w' ⟨rfl, rfl⟩))
    go_returns
    exact ⟨_, rfl, OwnG.nil _ _, hb3⟩
  | true =>
  rw [h5] at HIN
  by_cases h6 : N + H ≤ 48
  case neg =>
    have h6i : (48 : Int) < (N : Int) + (H : Int) := by omega
    have hN32 : (N : Int) ≤ 32 := by have := isSeq_len h1; omega
    have hH64 : (H : Int) ≤ 32 := by have := bsOk_len h3; omega
    have ho : sfOk known bits k = false := by rw [hok, h1, h3, h5, decide_eq_true h2, decide_eq_true h4, decide_eq_false h6]; rfl
    have hf : sfF known bits k = [] := by unfold sfF; rw [ho]; rfl
    rw [ho, hf]
    clear ho hf hok hva hvb h1 h3 h4 h5 hN hM hH h6
    go_enter Try.func24, Try.ntmps24
    go_wp2_with (first
      | (refine (HP.out).mono ?_; rintro e w1 ⟨rfl, hb1⟩)
      | (refine (HBS.out _ (HVB.out.below hb1)).mono ?_; rintro e w2 ⟨rfl, hb2⟩; have hb3 := joins hb1 hb2)
      | (refine (HIN.out _).mono ?_; rintro e w' ⟨rfl, rfl⟩))
    go_returns
    exact ⟨_, rfl, OwnG.nil _ _, hb3⟩
  have h6i : (N : Int) + (H : Int) ≤ 48 := by omega
  have hH0 : (0 : Int) ≤ (H : Int) := by omega
  have ho : sfOk known bits k = true := by rw [hok, h1, h3, h5, decide_eq_true h2, decide_eq_true h4, decide_eq_true h6]; rfl
  have hf : sfF known bits k = scL (sfAll known bits) k := by unfold sfF; rw [ho]; rfl
  rw [ho, hf]
  have hse : seOk bits = true := by unfold seOk; rw [h3, ← hM, decide_eq_true h4]; rfl
  have HOW := Lib.hid (fun w h => l1Own_any (.slice pa N ca) known w h (by omega))
  have HMO := Lib.hid (fun w h => mdModulate_any (.slice pb M cb) bits w h hse)
  have hk2 : 1 ≤ k ∧ k ≤ 1000 := by simpa [inB] using h5
  have HMP := Lib.hid (fun v w h => mdPoints_any v (sfAll known bits) k w h (sfAll_all h1) (by rw [sfAll_length, ← hN, ← hM]; omega) hk2)
  obtain ⟨L, hL⟩ : ∃ L, L = scL (sfAll known bits) k := ⟨_, rfl⟩
  rw [← hL] at HMP ⊢
  obtain ⟨c, hc⟩ : ∃ c, c = known.getD (known.length - 1) 0 := ⟨_, rfl⟩
  have hcin : 0 ≤ c ∧ c ≤ 3 := by rw [hc]; exact allIn_getD (isSeq_all h1) _ (by omega)
  have hsl : (moL bits).length = H := by rw [moL_length, ← hM, hH]
  have HSQ := Lib.hid (isSeq_all (moL_seq hse))
  have HALL := Lib.hid (show sfPre known (moL bits) H = sfAll known bits from by rw [hH, hM]; exact sfPre_all known bits)
  obtain ⟨st, hst⟩ : ∃ st, st = moL bits := ⟨_, rfl⟩
  rw [← hst] at hsl HSQ HALL HMO
  have HFI := Lib.hid (fun j => fsN_in c hcin st j)
  have HAT := Lib.hid (fun j (hj : j < H) => allIn_getD HSQ.out j (by rw [hsl]; exact hj))
  have HPL := Lib.hid (fun j => show (sfPre known st j).length = N + j by rw [sfPre_length, hN])
  have HLA := Lib.hid (fun j => show (sfPre known st j).getD (N + j - 1) 0 = fsN c st j by rw [hN, hc]; exact sfPre_last known st j)
  have HSU := Lib.hid (fun j => show sfPre known st (j + 1) = sfPre known st j ++ [(fsN c st j + st.getD j 0) % 4] by rw [hc]; exact sfPre_succ known st j)
  have HZE := Lib.hid (sfPre_zero known st)
  have HSL := Lib.hid hsl
  clear ho hf hok hva hvb hla hlb h1 h3 h4 h5 hse hk2 hL hc hcin hsl hst hN hM hH
  go_enter Try.func24, Try.ntmps24
  go_wp2_with (first
    | (refine (HP.out).mono ?_; rintro e w1 ⟨rfl, hb1⟩)
    | (refine (HBS.out _ (HVB.out.below hb1)).mono ?_; rintro e w2 ⟨rfl, hb2⟩; have hb3 := joins hb1 hb2)
    | (refine (HIN.out _).mono ?_; rintro e w' ⟨rfl, rfl⟩))
  refine (HOW.out _ (HVA.out.below hb3)).mono ?_
  rintro e w4 ⟨v4, rfl, ho4, hb4⟩
  have HB4 := Lib.hid (joins hb3 hb4)
  have HO4 := Lib.hid (Own.mono ho4 hb3.size)
  clear ho4 hb4
  go_wp2_with fail
  refine (HMO.out _ (HVB.out.below HB4.out)).mono ?_
  rintro e w5 ⟨v5, rfl, ho5, hb5⟩
  have HB5 := Lib.hid (joins HB4.out hb5)
  have HO45 := Lib.hid (HO4.out.below hb5)
  obtain ⟨av, cv, hv5⟩ : ∃ a c, v5 = .slice a H c := by
    obtain ⟨a, c, h⟩ := ho5.is.slice
    rw [HSL.out] at h
    exact ⟨a, c, h⟩
  subst hv5
  have HKE := Lib.hid (show KeepI w5 v4 av H (fun i => st.getD i 0) from fun i hi => by
    have hl : 0 < st.length := by rw [HSL.out]; omega
    rcases ho5.cases with ⟨h0, _⟩ | ⟨g, cp, hv, hg1, hg2⟩
    · rw [h0] at hl; exact absurd hl (Nat.lt_irrefl _)
    · simp only [Value.slice.injEq] at hv
      obtain ⟨rfl, _, rfl⟩ := hv
      refine ⟨g, 0, rfl, ?_, fun e => ?_⟩
      · rw [Nat.zero_add]; exact ho5.cellAt HSL.out i (by rw [HSL.out]; exact hi)
      · have := (HO4.out.lt g e).2; omega)
  clear ho5 hb5
  go_wp2_with fail
  go_loopw [49, 8, 10] (fun i o _ wr => ∃ j : Nat, j ≤ H ∧ i = .int .i64 j ∧ Own wr w.heap.size o (sfPre known st j) ∧ KeepI wr o av H (fun i => st.getD i 0) ∧ Below w.heap.size w wr) (fun i _ _ _ => H - (intOf i).toNat)
  case atStart => exact ⟨0, Nat.zero_le _, rfl, by rw [HZE.out]; exact HO45.out, HKE.out, HB5.out⟩
  case round =>
    obtain ⟨j, hj, rfl, hown, hkeep, hbel⟩ := hrel
    by_cases hlt : j < H
    · obtain ⟨b, off, rfl, cs, hne⟩ := hkeep j hlt
      obtain ⟨hx1, hx2⟩ := HAT.out j hlt
      obtain ⟨hy1, hy2⟩ := HFI.out j
      have hpl := HPL.out j
      have hsu := HSU.out j
      have hla := HLA.out j
      rcases hown.cases with ⟨h0, _⟩ | ⟨g, cp, hv, hg1, hg2⟩
      · rw [h0] at hpl; simp at hpl; omega
      rw [hpl] at hv
      subst hv
      have c2 := hown.cellAt hpl (N + j - 1) (by rw [hpl]; omega)
      rw [hla] at c2
      obtain ⟨x, hxd⟩ : ∃ x, x = st.getD j 0 := ⟨_, rfl⟩
      obtain ⟨y, hyd⟩ : ∃ y, y = fsN c st j := ⟨_, rfl⟩
      have cs2 : wr.cell? ⟨b, off + j, none⟩ = some (.int .i64 x) := by rw [hxd]; exact cs
      rw [← hxd] at hx1 hx2 hsu
      rw [← hyd] at hy1 hy2 hsu c2
      obtain ⟨t, ht⟩ : ∃ t, t = N + j - 1 := ⟨_, rfl⟩
      rw [← ht] at c2
      obtain ⟨q, hq⟩ : ∃ q, q = N + j := ⟨_, rfl⟩
      rw [← hq] at hown hkeep hne ⊢
      have htq : (q : Int) - 1 = (t : Int) := by omega
      have ht0 : (0 : Int) ≤ (t : Int) := by omega
      have ht1 : (t : Int) < (q : Int) := by omega
      have hq48 : (q : Int) ≤ 48 := by omega
      have HSU1 := Lib.hid hsu
      have HGL := Lib.hid (show (sfPre known st j).length ≤ 1048576 by rw [hpl]; omega)
      have HO := Lib.hid hown
      have HB := Lib.hid hbel
      have HK := Lib.hid hkeep
      have h0 : (0 : Int) ≤ (j : Int) := by omega
      have hh1 : (j : Int) < (H : Int) := by omega
      clear hxd hyd hpl hsu hla hown hkeep hbel cs hne ht hq hg1 hg2
      go_wp2_with (first
        | (go_at_call 55; refine (phMod_any _ (by omega) (by omega) _).mono ?_; rintro e w' ⟨rfl, rfl⟩)
        | (at_builtin; refine wpList_pushL rfl _ _ rfl w.heap.size _ (sfPre known st j) rfl (HO.out.alloc _) wr.heap.size 1 ((y + x) % 4) rfl (by simp) HGL.out w.heap.size w (HB.out.alloc HB.out.size _) (Nat.le_refl _) (by have := HB.out.size; simp; omega) (by have := HB.out.size; simp; omega) ?_; intro v6 w6 ho6 hb6 hg6 hn6; have HK6 := Lib.hid (KeepI.pushed (KeepI.below HK.out (belowa (Below.refl _ _) _)) hg6 hn6); have HO6 := Lib.hid ho6; have HB6 := Lib.hid hb6; clear ho6 hb6 hg6 hn6))
      go_roundw
      case rel => exact ⟨j + 1, by omega, by go_num, by rw [HSU1.out]; exact HO6.out, HK6.out, HB6.out⟩
      case measure => simp [intOf]; omega
    · obtain rfl : j = H := by omega
      rw [HALL.out] at hown
      have HO := Lib.hid hown
      have HB := Lib.hid hbel
      clear hown hbel hkeep
      go_wp2_with fail
      refine (HMP.out _ _ HO.out.is).mono ?_
      rintro e w6 ⟨v6, rfl, ho6, hb6⟩
      have HO6 := Lib.hid (OwnG.mono ho6 HB.out.size)
      have HB6 := Lib.hid (joins HB.out hb6)
      clear ho6 hb6
      go_wp2_with fail
      go_returns
      exact ⟨_, rfl, HO6.out, HB6.out⟩
end Go.Proofs.Ytoehehaeanepmab
