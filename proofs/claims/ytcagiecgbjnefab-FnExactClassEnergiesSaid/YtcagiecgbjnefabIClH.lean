/- The heads, met in whatever order: plain. The program's headsOf. The program's CountClasses, ClassHeads, ClassEnergies. -/
import Derived.Test.YtcagiecgbjnefabIClT
import Derived.Test.YtcagiecgbjnefabClH
import Derived.Test.YtcagiecgbjnefabIClV
import Derived.Test.YtcagiecgbjnefabIClS
namespace Go.Proofs.Ytcagiecgbjnefab
set_option maxRecDepth 100000
section
open Go.RowKit

/-- Which classes have been met: their heads; and the sequences that are left. -/
structure Meet (n : Nat) (left : Lit → Bool) (ss : List (List Int)) : Prop where
  nodup : ss.Nodup
  ok : ∀ s ∈ ss, (isSeq s = true ∧ s.length = n) ∧ leX s = s
  left : ∀ kl, left kl = true ↔ ∃ s, (isSeq s = true ∧ s.length = n ∧ leX s ∉ ss) ∧ kl = klOf s
theorem Meet.start {n : Nat} {M : DataW Unit} (h : KeysAre M (fun s => isSeq s = true ∧ s.length = n)) : Meet n (Maps.has M) [] :=
  ⟨List.nodup_nil, by simp, fun kl => by rw [h kl]; simp [and_assoc]⟩
theorem Meet.sub {n : Nat} {left : Lit → Bool} {ss : List (List Int)} (h : Meet n left ss) (hn : n ≤ 15) : ∀ s ∈ ss, s ∈ hdA n := fun s hs => (hdA_mem n hn s).2 (h.ok s hs)
theorem Meet.done {n : Nat} {left : Lit → Bool} {ss : List (List Int)} (h : Meet n left ss) (hn : n ≤ 15) (hl : ∀ kl, left kl = false) : ∀ s, s ∈ ss ↔ s ∈ hdA n := fun s => ⟨h.sub hn s, fun hs => by
  obtain ⟨⟨h1, h2⟩, h3⟩ := (hdA_mem n hn s).1 hs
  by_cases e : s ∈ ss
  · exact e
  · have := (h.left (klOf s)).2 ⟨s, ⟨h1, h2, by rw [h3]; exact e⟩, rfl⟩
    rw [hl] at this; cases this⟩
/-- What is left of what was left, with these taken out. -/
def Gone (left0 : Lit → Bool) (dd : List (List Int)) (left : Lit → Bool) : Prop := ∀ kl, left kl = true ↔ left0 kl = true ∧ ∀ q ∈ dd, kl ≠ klOf q
theorem Gone.start (left0 : Lit → Bool) : Gone left0 [] left0 := fun kl => by simp
theorem Gone.step {left0 left : Lit → Bool} {dd : List (List Int)} (h : Gone left0 dd left) {q : List Int} (hq : isSeq q = true) : Gone left0 (dd ++ [q]) (fun z => left z && !z.sameKey (klOf q)) := fun kl => by
  rw [Bool.and_eq_true, h kl]
  have hk := klOf_key hq
  constructor
  · rintro ⟨⟨h1, h2⟩, h3⟩
    refine ⟨h1, fun x hx => ?_⟩
    rcases List.mem_append.1 hx with h4 | h4
    · exact h2 x h4
    · obtain rfl := List.mem_singleton.1 h4
      intro e
      subst e
      rw [WideAt.sameKey_self hk] at h3
      cases h3
  · rintro ⟨h1, h2⟩
    refine ⟨⟨h1, fun x hx => h2 x (by simp [hx])⟩, ?_⟩
    cases h3 : kl.sameKey (klOf q) with
    | false => rfl
    | true => exact absurd (WideAt.sameKey_eq h3) (h2 q (by simp))
theorem Meet.at {n : Nat} {left : Lit → Bool} {ss : List (List Int)} (h : Meet n left ss) {p : List Int} (hp : isSeq p = true) (hl : left (klOf p) = true) : p.length = n ∧ leX p ∉ ss := by
  obtain ⟨s, ⟨h1, h2, h3⟩, e⟩ := (h.left _).1 hl
  have e2 := klOf_inj hp h1 e
  subst e2
  exact ⟨h2, h3⟩
theorem Meet.next {n : Nat} {left left' : Lit → Bool} {ss dd : List (List Int)} (h : Meet n left ss) {p : List Int} (hp : isSeq p = true) (hl : left (klOf p) = true)
    (hg : Gone (fun z => left z && !z.sameKey (klOf p)) dd left') (hd : ∀ s, s ∈ dd ↔ s ∈ orL p 64) : Meet n left' (ss ++ [leX p]) := by
  obtain ⟨hpn, hnew⟩ := h.at hp hl
  have hmem : ∀ s, isSeq s = true → (s ∈ dd ↔ leX s = leX p) := fun s hs => (hd s).trans (((orL_all p hp 64).2.1 s).trans (leX_iff hp hs))
  have hdq : ∀ q ∈ dd, isSeq q = true := fun q hq => ((orL_all p hp 64).1 q ((hd q).1 hq)).2
  have hle := (leX_eqv p hp).seq hp
  have hll := leX_leX p hp
  clear hd
  generalize hP : leX p = P at *
  refine ⟨?_, fun s hs => ?_, fun kl => ?_⟩
  · rw [List.nodup_append]
    exact ⟨h.nodup, by simp, fun a ha b hb => by simp at hb; subst hb; intro e; subst e; exact hnew ha⟩
  · rcases List.mem_append.1 hs with h1 | h1
    · exact h.ok s h1
    · obtain rfl := List.mem_singleton.1 h1
      exact ⟨⟨hle.1, by rw [hle.2, hpn]⟩, hll⟩
  · rw [hg kl, Bool.and_eq_true, h.left kl]
    constructor
    · rintro ⟨⟨⟨s, ⟨h1, h2, h3⟩, rfl⟩, -⟩, h5⟩
      refine ⟨s, ⟨h1, h2, fun hm => ?_⟩, rfl⟩
      rcases List.mem_append.1 hm with h6 | h6
      · exact h3 h6
      · exact h5 s ((hmem s h1).2 (List.mem_singleton.1 h6)) rfl
    · rintro ⟨s, ⟨h1, h2, h3⟩, rfl⟩
      refine ⟨⟨⟨s, ⟨h1, h2, fun hm => h3 (by simp [hm])⟩, rfl⟩, ?_⟩, fun q hq e => ?_⟩
      · cases h4 : (klOf s).sameKey (klOf p) with
        | false => rfl
        | true => exact absurd (by have := klOf_inj h1 hp (WideAt.sameKey_eq h4); subst this; simp [hP]) h3
      · have := klOf_inj h1 (hdq q hq) e
        subst this
        exact h3 (by rw [(hmem s h1).1 hq]; simp)
end
section
open Go.RowKit

theorem wpList_mapPut9 {ops : Array Oper} {rest : List Oper} {o : Oper} {a : Act} {w : World} {Q : Exit → Act → World → Prop} (hgd : o.guard = none) (m x v : Operand) (ho : o.op = .mapUpdate 52 m x v)
    (b n : Nat) (M : DataW Unit) (hm : a.eval m = .map (some b)) (hown : w.ownsMap Try.prog 47 (plainElem (H := Unit) Try.prog 4) b n M) (hn : n < maxLen) (s : List Int) (hs : isSeq s = true) (hx : a.eval x = .agg (phC s)) (hv : a.eval v = .bool true)
    (hK : ∀ w', w'.ownsMap Try.prog 47 (plainElem (H := Unit) Try.prog 4) b (n + 1) (M.put (klOf s) (.lit (.bool true))) → w.grownBy w' (some b) → wpList Try.prog ops Q rest (a.put o.dst undef) w') : wpList Try.prog ops Q (o :: rest) a w := by
  refine wpList_plain hgd fun K' hK' => ?_
  obtain ⟨w', hrun, r1, r2⟩ := hown.update keyedPh Try.underlying52 hn (keyOf_ph hs) (plainElem_bool Try.underlying4 true)
  unfold Oper.wp
  simp [execOp, ho, hm, hx, hv, hrun, Result.andThen]
  exact hK' _ _ (hK w' r1 r2)
theorem OwnQ.keptBut {w w' : World} {B : Nat} {v : Value} {L : List (List Int)} {row : Option Nat} (h : OwnQ w B v L) (hg : w.grownBy w' row) (hne : ∀ k, v.ownBlock = some k → row = some k → False) : OwnQ w' B v L :=
  World.ownsRow.kept h hg (by
    cases hv : v.ownBlock with
    | none => exact Or.inl rfl
    | some k => exact Or.inr (fun e => hne k hv e.symm))
def SqP (n : Nat) (s : List Int) : Prop := isSeq s = true ∧ s.length = n
/-- A list of the program's heads: its own. -/
def HeadsMade (N : Nat) (w : World) (e : Ending) (w' : World) : Prop := ∃ g cap, e = .returned (.slice (some ⟨g, 0, none⟩) (hdA N).length cap) ∧ w.heap.size ≤ g ∧ SeqsAt w' g (hdA N) ∧ Below w.heap.size w w'
set_option maxRecDepth 100000 in
set_option maxHeartbeats 8000000 in
theorem headsOf_any (N : Nat) (hN : N ≤ 5) (w : World) : Calls Try.prog 47 #[.int .i64 N] w (HeadsMade N w) := by
  have hmm := @run_makeMap Try.prog
  obtain ⟨i0, hi, hz0, hz1, hz2⟩ := info_parts infoPn
  have HI := Lib.hid hi
  have HZ0 := Lib.hid hz0
  have HZ1 := Lib.hid hz1
  have HZ2 := Lib.hid hz2
  have ZZ := Lib.hid zeroPh
  have SZ := Lib.hid (phA_size z32 0 z32_length)
  obtain ⟨Z, hZ⟩ : ∃ Z, Z = phA z32 0 := ⟨_, rfl⟩
  have HZE := Lib.hid hZ
  rw [← hZ] at ZZ SZ
  have SC := Lib.hid phC_size
  have OC := Lib.hid phC_one
  have IC := Lib.hid phC_info
  have HSW := Lib.hid (fun w => sequencesWith_any N hN w)
  have HCL := Lib.hid (fun p (hp : isSeq p = true) w => classOf_any p hp w)
  have HORB := Lib.hid (fun p (hp : isSeq p = true) => orL_all p hp 64)
  have HLE := Lib.hid (fun p (hp : isSeq p = true) (hl : p.length = N) b nn M w hown hk => show Calls Try.prog 40 #[.map (some b)] w (Ret w (.agg (phC (leX p)))) from
    least_any p.length (by omega) (orL p 64) (fun s hs => ⟨((orL_all p hp 64).1 s hs).2, ((orL_all p hp 64).1 s hs).1⟩) (orL_all p hp 64).2.2 (orL_pos p 63) (by have := orL_len p 64; omega) b nn M w hown (KeysAre.same hk (fun s => ((orL_all p hp 64).2.1 s).symm)))
  have HST9 := Lib.hid (fun p (hp : isSeq p = true) M (hk : KeysAre M (fun s => ∃ i, i < 64 ∧ s = clX i p)) => show Come (orL p 64) (Maps.has M) [] from Come.start (KeysAre.same hk (fun s => ((orL_all p hp 64).2.1 s).symm)))
  have HSO := Lib.hid (fun ss (h0 : ∀ s ∈ ss, isSeq s = true ∧ s.length = N) (h1 : ss.Nodup) (h2 : ∀ s, s ∈ ss ↔ s ∈ hdA N) (h3 : ss.length ≤ 1048576) g cap B w h4 => sort_any N (by omega) ss (hdA N) h0 h1 (hdA_up N) h2 h3 g cap B w h4)
  have HPO := Lib.hid (hdA_pos N (by omega))
  have HDL := Lib.hid (hdA_len N hN)
  have HSUB := Lib.hid (fun left ss (h : Meet N left ss) => h.sub (by omega))
  have HDONE := Lib.hid (fun left ss (h : Meet N left ss) hl => h.done (by omega) hl)
  have HKEY := Lib.hid (fun s => show (∃ i, i < pow4' N ∧ s = lowD ((i : Nat) : Int) N) ↔ (isSeq s = true ∧ s.length = N) from ⟨fun ⟨i, _, e⟩ => by rw [e]; exact ⟨low_seq _ N (by omega), lowD_length _ _⟩, fun ⟨h1, h2⟩ => sq_low (by omega) h1 h2⟩)
  have HDS := Lib.hid (fun k : Nat => show isSeq (lowD (k : Int) N) = true from low_seq _ N (by omega))
  have hp4 := (pow4_le' N (by omega)).2
  have hK5 : pow4' N ≤ 1024 := Nat.pow_le_pow_right (n := 4) (by omega) hN
  unfold AllMade at HSW
  unfold HeadsMade
  obtain ⟨R, hR⟩ : ∃ R, R = hdA N := ⟨_, rfl⟩
  rw [← hR] at HSO HPO HDL HSUB HDONE ⊢
  obtain ⟨K, hK⟩ : ∃ K, K = pow4' N := ⟨_, rfl⟩
  obtain ⟨D, hD⟩ : ∃ D : Nat → List Int, D = fun k : Nat => lowD k N := ⟨_, rfl⟩
  have hDk : ∀ k : Nat, lowD k N = D k := fun k => by rw [hD]
  simp only [hDk] at HKEY HDS
  obtain ⟨DD, hDD⟩ : ∃ DD, DD = allD N := ⟨_, rfl⟩
  have HDD := Lib.hid (fun k => show DD k = phC (D k) by rw [hDD, hD]; rfl)
  rw [← hK] at HSW HKEY hK5
  rw [← hDD] at HSW
  clear hi hz0 hz1 hz2 hZ hR hK hD hDk hDD hp4
  go_enter Try.func47, Try.ntmps47
  go_wp2_with fail
  refine (HSW.out _).mono ?_
  rintro e w1 ⟨g, rfl, hg, hall, hb⟩
  have MO1 := Lib.hid (map_below (World.ownsMap_made w Try.prog 47 (plainElem (H := Unit) Try.prog 4)) hb)
  have B1 := Lib.hid (joins (belowa (Below.refl w.heap.size w) (.map #[] 0)) hb)
  have FR1 := Lib.hid hall
  have NEG := Lib.hid (show g ≠ w.heap.size from by simp at hg; omega)
  have LW1 := Lib.hid (show w.heap.size < w1.heap.size from MO1.out.lt)
  clear hb hall hg
  go_wp2_with fail
  go_loopw [14] (fun x wr => ∃ (k : Nat) (M : DataW Unit), k ≤ K ∧ x = .int .i64 k ∧ wr.ownsMap Try.prog 47 (plainElem (H := Unit) Try.prog 4) w.heap.size k M ∧ KeysAre M (fun s => ∃ i, i < k ∧ s = D i) ∧ AllAt wr g 33 K DD K ∧ Below w.heap.size w wr) (fun x _ => K - (intOf x).toNat)
  case atStart => exact ⟨0, _, Nat.zero_le _, rfl, MO1.out, fun kl => ⟨fun h => by simp [Maps.has] at h, fun ⟨s, ⟨i, h, _⟩, _⟩ => absurd h (Nat.not_lt_zero _)⟩, FR1.out, B1.out⟩
  case round =>
    obtain ⟨k, M, hk, rfl, hown, hkeys, hall, hbel⟩ := hrel
    have MO := Lib.hid hown
    have MK := Lib.hid hkeys
    have FR := Lib.hid hall
    have BR := Lib.hid hbel
    clear hown hkeys hall hbel
    by_cases hlt : k < K
    · have h0 : (0 : Int) ≤ (k : Int) := by omega
      have h1 : (k : Int) < (K : Int) := by omega
      have HSL := Lib.hid (HDS.out k)
      have MKN := Lib.hid (show KeysAre (M.put (klOf (D k)) (.lit (.bool true))) (fun s => ∃ i, i < k + 1 ∧ s = D i) from (MK.out.put MO.out.isMap HSL.out _).same (fun s => by
        constructor
        · rintro (⟨i, hi, rfl⟩ | rfl)
          · exact ⟨i, by omega, rfl⟩
          · exact ⟨k, by omega, rfl⟩
        · rintro ⟨i, hi, rfl⟩
          rcases Nat.lt_succ_iff_lt_or_eq.1 hi with h | h
          · exact Or.inl ⟨i, h, rfl⟩
          · exact Or.inr (by rw [h])))
      have HLD := Lib.hid (show wr.rangeAt g (k * 33) (phC (D k)).toList from by rw [← HDD.out]; exact FR.out.cells k hlt)
      have HKM := Lib.hid (show k < maxLen by unfold maxLen; omega)
      obtain ⟨l, hl⟩ : ∃ l, l = D k := ⟨_, rfl⟩
      rw [← hl] at HSL MKN HLD
      clear hl
      go_wp2_with (first
        | ((with_reducible refine at_op (d := some 17) (Op.load 47 (.tmp 16)) ?_); refine load_seq9 rfl (.tmp 16) rfl g (k * 33) rfl (phC l) HLD.out (SC.out l) ?_)
        | ((with_reducible refine at_op (d := some 5) (Op.alloc 47) ?_); refine wpList_alloc_row rfl 47 rfl Z ZZ.out ?_; intro w21 hr hb hz; have R21_p := Lib.hid hr; have L21_p := Lib.hid (show wr.heap.size ≤ wr.heap.size from Nat.le_refl _); have D21 := Lib.hid (hb); clear hr hb hz)
        | ((with_reducible refine at_op (Op.store 47 (.tmp 5) (.tmp 17)) ?_); refine wpList_put_row rfl 47 (.tmp 5) (.tmp 17) rfl (wr.heap.size) (phC l) rfl rfl 47 Z R21_p.out 33 infoPh (SC.out l) SZ.out (OC.out l) wr.heap.size wr D21.out L21_p.out ?_; intro w22 hr hs hb; have R22_p := Lib.hid hr; have F22_m := Lib.hid (map_below MO.out hb); have F22_a := Lib.hid (AllAt.below FR.out hb); have B22 := Lib.hid (joins BR.out hb); have L22_p := Lib.hid (Nat.le_trans BR.out.size L21_p.out); clear hr hs hb)
        | ((with_reducible refine at_op (d := some 19) (Op.load 47 (.tmp 5)) ?_); refine wpList_load_part rfl 47 (.tmp 5) rfl (wr.heap.size) 0 rfl (phC l) (phC l) 47 (0, 0) _ R22_p.out (Part.self _) Try.underlying47 rfl (IC.out l) ?_)
        | ((with_reducible refine at_op (Op.mapUpdate 52 (.tmp 18) (.tmp 19) (.const (.bool true))) ?_); refine wpList_mapPut9 rfl (.tmp 18) (.tmp 19) _ rfl w.heap.size k M rfl F22_m.out HKM.out l HSL.out rfl rfl ?_; intro w9 hm9 hg9; have M9 := Lib.hid hm9; have A9 := Lib.hid (AllAt.block F22_a.out (hg9.block g F22_a.out.lt (fun e => NEG.out (Option.some.inj e))) (Nat.lt_of_lt_of_le F22_a.out.lt hg9.size)); have B9 := Lib.hid (B22.out.grown hg9 B22.out.size (fun k h => by cases h; exact Nat.le_refl _)); clear hm9 hg9))
      go_roundw
      case rel => exact ⟨k + 1, _, by omega, by go_num, M9.out, MKN.out, A9.out, B9.out⟩
      case measure => simp [intOf]; omega
    · obtain rfl : k = K := by omega
      have LWR := Lib.hid (show w.heap.size < wr.heap.size from MO.out.lt)
      have HMS := Lib.hid (show Meet N (Maps.has M) [] from Meet.start (MK.out.same HKEY.out))
      go_wp2_with (at_range; refine wpList_range_own _ rfl _ 52 rfl 47 4 keyedPh Try.underlying52 (plainElem (H := Unit) Try.prog 4) w.heap.size k M rfl MO.out ?_; intro w0 hrg0 hg0 hs0)
      go_frame
      have B0_ := Lib.hid (BR.out.grown hg0 BR.out.size (fun k h => by cases h))
      have RG0 := Lib.hid hrg0
      have HS0 := Lib.hid hs0
      obtain ⟨r, hr⟩ : ∃ r, r = wr.heap.size := ⟨_, rfl⟩
      rw [← hr] at RG0 HS0 LWR ⊢
      clear hrg0 hg0 hs0 hr
      go_loopw [6] (fun o wq => ∃ (M' : DataW Unit) (left : Lit → Bool) (cnt : Nat) (ss : List (List Int)), wq.ranges Try.prog 47 (plainElem (H := Unit) Try.prog 4) w.heap.size r k M' left cnt ∧ OwnQ wq w0.heap.size o ss ∧ Meet N left ss ∧ Below w.heap.size w wq ∧ w0.heap.size ≤ wq.heap.size) (fun _ wq => wq.rangeLeft w.heap.size r)
      case atStart => exact ⟨_, _, _, [], RG0.out, World.ownsRow_nil _ _ _ _, HMS.out, B0_.out, Nat.le_refl _⟩
      case round =>
        obtain ⟨M', left, cnt, ss, hrg, hoq, hmt, hbel, hsz⟩ := hrel
        have RG := Lib.hid hrg
        have OQ := Lib.hid hoq
        have MT := Lib.hid hmt
        have BQ := Lib.hid hbel
        have SZR := Lib.hid hsz
        have HSL := Lib.hid (show ss.length ≤ 1048576 by have := nodup_le hmt.nodup (HSUB.out _ _ hmt); have := HDL.out; omega)
        clear hoq hmt hbel hsz hrg
        go_wp2_with (at_next; refine wpList_next_ph _ rfl _ rfl w.heap.size r k M' left cnt rfl RG.out (SqP N) (fun s h => h.1) (fun kl h => by obtain ⟨s, hs, e⟩ := (MT.out.left kl).1 h; exact ⟨s, ⟨hs.1, hs.2.1⟩, e⟩) ?_ ?_)
        · intro _ hl0
          have HMEM := Lib.hid (HDONE.out _ _ MT.out hl0)
          have hssp : 0 < ss.length := by
            have h1 : R.getD 0 [] ∈ R := by rw [getD_at _ _ HPO.out]; exact List.getElem_mem HPO.out
            exact List.length_pos_of_mem ((HMEM.out _).2 h1)
          obtain ⟨g2, cap, hoe, hgB⟩ := OQ.out.shape hssp
          subst hoe
          have HGB := Lib.hid (show w.heap.size ≤ g2 by have := HS0.out; have := LWR.out; omega)
          have HSR := Lib.hid (HSO.out ss (fun s hs => (MT.out.ok s hs).1) MT.out.nodup HMEM.out HSL.out g2 cap _ _ OQ.out)
          clear hl0 hssp hgB
          go_wp2_with fail
          refine (HSR.out).mono ?_
          rintro e w2 ⟨rfl, hsq, hb, hlr⟩
          have HSQ := Lib.hid hsq
          have B2 := Lib.hid (BQ.out.trans (hb.mono HGB.out))
          have HLR := Lib.hid hlr
          clear hsq hb hlr
          go_wp2_with fail
          go_returns
          exact ⟨g2, cap, by rw [HLR.out]; rfl, HGB.out, HSQ.out, B2.out⟩
        · intro s x w2 cnt1 hs hl hrg1 hltc hg1 hsz1 hen
          have RG2 := Lib.hid hrg1
          have LT1 := Lib.hid hltc
          have hb1 : Below w.heap.size w w2 := BQ.out.grown hg1 BQ.out.size (fun k h => by cases h; exact Nat.le_of_lt LWR.out)
          have B2 := Lib.hid hb1
          have OQ2 := Lib.hid (show OwnQ w2 w0.heap.size u6 ss from World.ownsRow.kept OQ.out hg1 (by
            cases hv : u6.ownBlock with
            | none => exact Or.inl rfl
            | some k => exact Or.inr (fun e => by have := (World.ownsRow.lt OQ.out k hv).1; have := HS0.out; injection e with e2; omega)))
          have OB2 := Lib.hid (show ∀ k, u6.ownBlock = some k → w0.heap.size ≤ k ∧ k < w2.heap.size from fun k hv => by have := World.ownsRow.lt OQ.out k hv; omega)
          have SZ2 := Lib.hid (show w0.heap.size ≤ w2.heap.size by have := SZR.out; omega)
          have HCs := Lib.hid (HCL.out s hs.1)
          have HLs := Lib.hid (HLE.out s hs.1 hs.2)
          have HRS := Lib.hid (fun q (hq : q ∈ orL s 64) => show isSeq q = true from ((HORB.out s hs.1).1 q hq).2)
          have HS9 := Lib.hid (HST9.out s hs.1)
          have HMN := Lib.hid (fun left' dd hgone hdd => MT.out.next (left' := left') (dd := dd) hs.1 hl hgone hdd)
          obtain ⟨t, ht⟩ : ∃ t, t = leX s := ⟨_, rfl⟩
          rw [← ht] at HLs HMN
          obtain ⟨RS, hRS⟩ : ∃ RS, RS = orL s 64 := ⟨_, rfl⟩
          rw [← hRS] at HRS HS9 HMN
          have ONE := Lib.hid (fun v (hv : v ∈ (phC t).toList) => show v.oneCell' = true from by
            have h1 := OC.out t
            rw [Array.all_eq_true_iff_forall_mem] at h1
            exact h1 v (by simpa using hv))
          clear hs hl hrg1 hltc hb1 hg1 hsz1 ht hRS
          have J2 := Lib.hid (Below.refl w2.heap.size w2)
          go_wp2_with (first
            | ((with_reducible refine at_op (d := some 7) (Op.alloc 47) ?_); refine wpList_alloc_row rfl 47 rfl Z ZZ.out ?_; intro w31 hr hb hz; have R31_p := Lib.hid hr; have L31_p := Lib.hid (show w2.heap.size ≤ w2.heap.size from Nat.le_refl _); have D31 := Lib.hid (hb); clear hr hb hz)
            | ((with_reducible refine at_op (Op.store 47 (.tmp 7) (.tmp 26)) ?_); refine wpList_put_row rfl 47 (.tmp 7) (.tmp 26) rfl (w2.heap.size) (phC s) rfl rfl 47 Z R31_p.out 33 infoPh (SC.out s) SZ.out (OC.out s) w2.heap.size w2 D31.out L31_p.out ?_; intro w32 hr hs hb; have R32_p := Lib.hid hr; have F32_o := Lib.hid (OwnQ.below OQ2.out hb); have F32_g := Lib.hid (ranges_below RG2.out hb); have F32_j := Lib.hid (joins J2.out hb); have B32 := Lib.hid (joins B2.out hb); have L32_p := Lib.hid (Nat.le_trans B2.out.size L31_p.out); clear hr hs hb)
            | ((with_reducible refine at_op (d := some 27) (Op.load 47 (.tmp 7)) ?_); refine wpList_load_part rfl 47 (.tmp 7) rfl (w2.heap.size) 0 rfl (phC s) (phC s) 47 (0, 0) _ R32_p.out (Part.self _) Try.underlying47 rfl (IC.out s) ?_))
          refine (HCs.out _).mono ?_
          rintro e w40 ⟨b2, M2, rfl, hbn, hmo, hmk, hb⟩
          have NB2 := Lib.hid (show w2.heap.size ≤ b2 from Nat.le_trans F32_j.out.size hbn)
          have MO40 := Lib.hid hmo
          have MK40 := Lib.hid hmk
          have B40 := Lib.hid (joins B32.out hb)
          have OQ40 := Lib.hid (OwnQ.below F32_o.out hb)
          have RG40 := Lib.hid (ranges_below F32_g.out hb)
          have J40 := Lib.hid (joins F32_j.out hb)
          clear hbn hmo hmk hb
          go_wp2_with fail
          refine (HLs.out b2 64 M2 _ MO40.out MK40.out).mono ?_
          rintro e w41 ⟨rfl, hb⟩
          have MO41 := Lib.hid (map_below MO40.out hb)
          have B41 := Lib.hid (joins B40.out hb)
          have OQ41 := Lib.hid (OwnQ.below OQ40.out hb)
          have RG41 := Lib.hid (ranges_below RG40.out hb)
          have J41 := Lib.hid (joins J40.out hb)
          clear hb
          go_wp2_with (first
            | (refine wpList_buildSlice rfl 51 47 1 #[(0, .tmp 31)] rfl (phC t) i0 (.agg (phA z32 0)) Try.underlying51 HI.out HZ0.out (by rw [HZ1.out]; decide) (by rw [HZ1.out]; decide) (by rw [parts_one9]; exact fill_one9 i0 HZ1.out (phC t) (SC.out t)) ?_)
            | (at_builtin; refine wpList_append_own _ rfl (.tmp 29) (.tmp 32) 51 rfl w0.heap.size 47 i0 (.agg (phA z32 0)) 33 264 Try.underlying51 HI.out HZ0.out HZ1.out HZ2.out (phA_size _ _ z32_length) (by decide) _ ss.length (seqCells ss) rfl (OQ41.out.alloc _) ⟨w41.heap.size, 0, none⟩ 1 1 (phC t).toList rfl (by rw [Array.length_toList, SC.out]) (news_row9 w41 (phC t) _) ONE.out (by have := HSL.out; unfold maxLen; omega) (by have := HSL.out; omega) (by have := SZ2.out; have := J41.out.size; simp; omega) ?_; intro v4 w4 ho4 hg4 _; have OQ4 := Lib.hid (show OwnQ w4 w0.heap.size v4 (ss ++ [t]) from by unfold OwnQ; rw [List.length_append, seqCells_snoc]; exact ho4); have B4 := Lib.hid ((belowa B41.out (.cells (phC t) 47)).grown hg4 (by have := B41.out.size; simp; omega) (fun k hk => by have := (OB2.out k hk).1; have := HS0.out; have := LWR.out; omega)); have RG4 := Lib.hid ((RG41.out.alloc (.cells (phC t) 47)).kept hg4 (fun e => by have := (OB2.out _ e.symm).1; have := HS0.out; have := LWR.out; omega) (fun e => by have := (OB2.out _ e.symm).1; have := HS0.out; omega)); have MO4 := Lib.hid ((map_below MO41.out (belowa (Below.refl _ _) (.cells (phC t) 47))).kept hg4 (fun e => by have := (OB2.out _ e.symm).2; have := NB2.out; omega)); have SZ4 := Lib.hid (show w0.heap.size ≤ w4.heap.size by have h1 := hg4.size; have := SZ2.out; have := J41.out.size; simp at h1; omega); clear ho4 hg4)
            | (at_range; refine wpList_range_own _ rfl _ 53 rfl 47 4 keyedPh Try.underlying53 (plainElem (H := Unit) Try.prog 4) b2 64 M2 rfl MO4.out ?_; intro w5 hrg5 hg5 hs5))
          (try go_frame)
          have B5 := Lib.hid (B4.out.grown hg5 B4.out.size (fun k h => by cases h))
          have RI5 := Lib.hid hrg5
          have HS5 := Lib.hid hs5
          have RG5 := Lib.hid (RG4.out.kept hg5 (by simp) (by simp))
          have OQ5 := Lib.hid (show OwnQ w5 w0.heap.size v4 (ss ++ [t]) from World.ownsRow.kept OQ4.out hg5 (by cases v4.ownBlock <;> simp))
          have OB5 := Lib.hid (show ∀ k, v4.ownBlock = some k → w0.heap.size ≤ k ∧ k < w4.heap.size from World.ownsRow.lt OQ4.out)
          have LB2 := Lib.hid (show b2 < w4.heap.size from MO4.out.lt)
          obtain ⟨r2, hr2⟩ : ∃ r, r = w4.heap.size := ⟨_, rfl⟩
          rw [← hr2] at RI5 HS5 OB5 LB2 SZ4
          clear hrg5 hg5 hs5
          have CO5 := Lib.hid (HS9.out M2 MK40.out)
          (try rw [← hr2])
          clear hr2
          go_loopw [9] (fun _ wv => ∃ (left2 : Lit → Bool) (cnt2 : Nat) (dd : List (List Int)) (M3 : DataW Unit) (lf : Lit → Bool) (cq : Nat), wv.ranges Try.prog 47 (plainElem (H := Unit) Try.prog 4) b2 r2 64 M2 left2 cnt2 ∧ Come RS left2 dd ∧ wv.ranges Try.prog 47 (plainElem (H := Unit) Try.prog 4) w.heap.size r k M3 lf cq ∧ Gone (fun z => left z && !z.sameKey (klOf s)) dd lf ∧ cq ≤ cnt1 ∧ OwnQ wv w0.heap.size v4 (ss ++ [t]) ∧ Below w.heap.size w wv ∧ w5.heap.size ≤ wv.heap.size) (fun _ wv => wv.rangeLeft b2 r2)
          case atStart => exact ⟨_, _, [], _, _, _, RI5.out, CO5.out, RG5.out, Gone.start _, Nat.le_refl _, OQ5.out, B5.out, Nat.le_refl _⟩
          case round =>
            obtain ⟨left2, cnt2, dd, M3, lf, cq, hri, hco, hro, hgo, hcq, hoq, hbel, hsz⟩ := hrel
            have RI := Lib.hid hri
            have CO := Lib.hid hco
            have RO := Lib.hid hro
            have GO := Lib.hid hgo
            have CQ := Lib.hid hcq
            have OV := Lib.hid hoq
            have BV := Lib.hid hbel
            have SV := Lib.hid hsz
            clear hri hco hro hgo hcq hoq hbel hsz
            go_wp2_with (at_next; refine wpList_next_ph _ rfl _ rfl b2 r2 64 M2 left2 cnt2 rfl RI.out (· ∈ RS) HRS.out CO.out.keys ?_ ?_)
            · intro _ hl0
              have MN := Lib.hid (HMN.out lf dd GO.out (CO.out.done hl0))
              clear hl0
              go_wp2_with fail
              go_roundw
              case rel => exact ⟨_, _, _, ss ++ [t], RO.out, OV.out, MN.out, BV.out, by have := SV.out; have := HS5.out; have := SZ4.out; omega⟩
              case measure => rw [RO.out.left_eq, RG.out.left_eq]; have := CQ.out; have := LT1.out; omega
            · intro q x2 w6 cnt3 hq hlq hrg6 hlt6 hg6 hsz6 hen2
              have QS := Lib.hid (HRS.out q hq)
              have CO6 := Lib.hid (CO.out.step HRS.out hq hlq)
              have GO6 := Lib.hid (GO.out.step (HRS.out q hq))
              have RI6 := Lib.hid hrg6
              have LT6 := Lib.hid hlt6
              have RO6 := Lib.hid (RO.out.kept hg6 (fun e => by have := Option.some.inj e; have := LWR.out; have := HS0.out; have := SZ4.out; omega) (fun e => by have := Option.some.inj e; have := HS0.out; have := SZ4.out; omega))
              have OV6 := Lib.hid (show OwnQ w6 w0.heap.size v4 (ss ++ [t]) from World.ownsRow.kept OV.out hg6 (by
                cases hv : v4.ownBlock with
                | none => exact Or.inl rfl
                | some k => exact Or.inr (fun e => by have := (OB5.out k hv).2; injection e with e2; omega)))
              have B6 := Lib.hid (BV.out.grown hg6 BV.out.size (fun k h => by cases h; have := LWR.out; have := HS0.out; have := SZ4.out; omega))
              have SV6 := Lib.hid (show w5.heap.size ≤ w6.heap.size by have := SV.out; omega)
              clear hq hlq hrg6 hlt6 hg6 hsz6
              go_wp2_with (first
                | ((with_reducible refine at_op (d := some 9) (Op.alloc 47) ?_); refine wpList_alloc_row rfl 47 rfl Z ZZ.out ?_; intro w61 hr hb hz; have R61_q := Lib.hid hr; have L61_q := Lib.hid (show w6.heap.size ≤ w6.heap.size from Nat.le_refl _); have D61 := Lib.hid (hb); clear hr hb hz)
                | ((with_reducible refine at_op (Op.store 47 (.tmp 9) (.tmp 39)) ?_); refine wpList_put_row rfl 47 (.tmp 9) (.tmp 39) rfl (w6.heap.size) (phC q) rfl rfl 47 Z R61_q.out 33 infoPh (SC.out q) SZ.out (OC.out q) w6.heap.size w6 D61.out L61_q.out ?_; intro w62 hr hs hb; have R62_q := Lib.hid hr; have F62_o := Lib.hid (OwnQ.below OV6.out hb); have F62_g := Lib.hid (ranges_below RO6.out hb); have F62_i := Lib.hid (ranges_below RI6.out hb); have F62_z := Lib.hid (Nat.le_trans SV6.out hb.size); have B62 := Lib.hid (joins B6.out hb); have L62_q := Lib.hid (Nat.le_trans B6.out.size L61_q.out); clear hr hs hb)
                | ((with_reducible refine at_op (d := some 41) (Op.load 47 (.tmp 9)) ?_); refine wpList_load_part rfl 47 (.tmp 9) rfl (w6.heap.size) 0 rfl (phC q) (phC q) 47 (0, 0) _ R62_q.out (Part.self _) Try.underlying47 rfl (IC.out q) ?_)
                | (at_delete; refine wpList_delete_ranges _ rfl (.tmp 40) (.tmp 41) 52 47 rfl 4 keyedPh Try.underlying52 (plainElem (H := Unit) Try.prog 4) w.heap.size r k M3 lf cq rfl F62_g.out (.agg (phC q)) (klOf q) rfl (keyOf_ph QS.out) ?_; intro w7 cq7 hrg7 hle7 ht7; have RO7 := Lib.hid hrg7; have CQ7 := Lib.hid (Nat.le_trans hle7 CQ.out); have RI7 := Lib.hid (F62_i.out.kept ht7.grown (fun e => by have := Option.some.inj e; have := NB2.out; have := SZ2.out; have := HS0.out; have := LWR.out; omega) (fun e => by have := Option.some.inj e; have := LWR.out; have := HS0.out; have := SZ4.out; omega)); have OV7 := Lib.hid (OwnQ.keptBut F62_o.out ht7.grown (fun k hv e => by have := (OB5.out k hv).1; have := HS0.out; have := LWR.out; have := Option.some.inj e; omega)); have B7 := Lib.hid (B62.out.grown ht7.grown B62.out.size (fun k h => by cases h; exact Nat.le_refl _)); have SV7 := Lib.hid (show w5.heap.size ≤ w7.heap.size from Nat.le_trans F62_z.out ht7.grown.size); clear hrg7 hle7 ht7))
              go_roundw
              case rel => exact ⟨_, _, _, _, _, _, _, ⟨_, cnt3, dd ++ [q], _, _, cq7, RI7.out, CO6.out, RO7.out, GO6.out, CQ7.out, OV7.out, B7.out, SV7.out⟩, rfl⟩
              case measure => rw [RI7.out.left_eq, RI.out.left_eq]; exact LT6.out
end
section
open Go.RowKit

theorem isListed_any (n : Int) (w : World) : Calls Try.prog 48 #[.int .i64 n] w (Pure w (.bool (inB n 0 4))) := by
  go_enter Try.func48, Try.ntmps48
  go_wp2
  all_goals
    go_ret
    exact ⟨ret_bool (by simp only [inB]; simp; omega), rfl⟩
theorem inB_nat9 {n hi : Int} (h : inB n 0 hi = true) : ∃ N : Nat, n = N ∧ (N : Int) ≤ hi := by
  have h1 : 0 ≤ n ∧ n ≤ hi := by unfold inB at h; simpa using h
  obtain ⟨N, rfl⟩ := Int.eq_ofNat_of_zero_le h1.1
  exact ⟨N, rfl, h1.2⟩
set_option maxRecDepth 100000 in
set_option maxHeartbeats 4000000 in
theorem iCountClasses (n : Int) (w : World) : Calls Try.prog 24 #[.int .i64 n] w (Ret w (.tuple #[.int .i64 (hcV n), .bool (inB n 0 5)])) := by
  have HC := Lib.hid (isCounted_any n)
  unfold hcV
  cases hs : inB n 0 5 with
  | false =>
    rw [hs] at HC
    rw [if_neg (by decide)]
    clear hs
    go_enter Try.func24, Try.ntmps24
    go_wp2_with fail
    refine (HC.out _).mono ?_
    rintro e w1 ⟨rfl, rfl⟩
    go_wp2_with fail
    go_returns
    exact ⟨rfl, by go_grown⟩
  | true =>
    rw [hs] at HC
    obtain ⟨N, rfl, hn⟩ := inB_nat9 hs
    have HA := Lib.hid (fun w => show Calls Try.prog 47 #[.int .i64 N] w (HeadsMade N w) from headsOf_any N (by omega) w)
    rw [if_pos rfl, Int.toNat_natCast]
    unfold HeadsMade at HA
    have hseq : ∀ s ∈ hdA N, isSeq s = true := fun s h => ((hdA_mem N (by omega) s).1 h).1.1
    have hlen := hdA_len N (by omega)
    obtain ⟨L, hL⟩ : ∃ L, L = hdA N := ⟨_, rfl⟩
    rw [← hL] at HA hseq hlen ⊢
    clear hs hn hL
    clear hseq
    go_enter Try.func24, Try.ntmps24
    go_wp2_with fail
    refine (HC.out _).mono ?_
    rintro e w1 ⟨rfl, rfl⟩
    go_wp2_with fail
    refine (HA.out _).mono ?_
    rintro e w2 ⟨g, cap, rfl, hg, hsq, hb⟩
    have B2 := Lib.hid hb
    clear hb hg hsq
    go_wp2_with fail
    go_returns
    exact ⟨rfl, B2.out⟩
set_option maxRecDepth 100000 in
set_option maxHeartbeats 4000000 in
theorem iClassHeads (n : Int) (w : World) : Calls Try.prog 26 #[.int .i64 n] w (MakesRB w (hdF n) (inB n 0 4)) := by
  have HC := Lib.hid (isListed_any n)
  unfold hdF
  cases hs : inB n 0 4 with
  | false =>
    rw [hs] at HC
    rw [if_neg (by decide)]
    clear hs
    go_enter Try.func26, Try.ntmps26
    go_wp2_with fail
    refine (HC.out _).mono ?_
    rintro e w1 ⟨rfl, rfl⟩
    go_wp2_with fail
    go_returns
    exact ⟨_, rfl, OwnR.nil _ _, by go_grown⟩
  | true =>
    rw [hs] at HC
    obtain ⟨N, rfl, hn⟩ := inB_nat9 hs
    have HA := Lib.hid (fun w => show Calls Try.prog 47 #[.int .i64 N] w (HeadsMade N w) from headsOf_any N (by omega) w)
    rw [if_pos rfl, Int.toNat_natCast]
    unfold HeadsMade at HA
    have hseq : ∀ s ∈ hdA N, isSeq s = true := fun s h => ((hdA_mem N (by omega) s).1 h).1.1
    have hlen := hdA_len N (by omega)
    obtain ⟨L, hL⟩ : ∃ L, L = hdA N := ⟨_, rfl⟩
    rw [← hL] at HA hseq hlen ⊢
    clear hs hn hL
    have HLS := Lib.hid (fun g cap w hsq => listsOf_any L hseq (by omega) g cap w hsq)
    clear hseq
    go_enter Try.func26, Try.ntmps26
    go_wp2_with fail
    refine (HC.out _).mono ?_
    rintro e w1 ⟨rfl, rfl⟩
    go_wp2_with fail
    refine (HA.out _).mono ?_
    rintro e w2 ⟨g, cap, rfl, hg, hsq, hb⟩
    have B2 := Lib.hid hb
    have SQ := Lib.hid hsq
    clear hb hg hsq
    go_wp2_with fail
    refine (HLS.out g cap _ SQ.out).mono ?_
    rintro e w3 ⟨v, rfl, ho, hb⟩
    have B3 := Lib.hid (joins B2.out hb)
    have O3 := Lib.hid (ho.mono B2.out.size)
    clear ho hb
    go_wp2_with fail
    go_returns
    exact ⟨v, rfl, O3.out, B3.out⟩
set_option maxRecDepth 100000 in
set_option maxHeartbeats 4000000 in
theorem iClassEnergies (n : Int) (w : World) : Calls Try.prog 28 #[.int .i64 n] w (MakesB w (heF n) (inB n 0 4)) := by
  have HC := Lib.hid (isListed_any n)
  unfold heF
  cases hs : inB n 0 4 with
  | false =>
    rw [hs] at HC
    rw [if_neg (by decide)]
    clear hs
    go_enter Try.func28, Try.ntmps28
    go_wp2_with fail
    refine (HC.out _).mono ?_
    rintro e w1 ⟨rfl, rfl⟩
    go_wp2_with fail
    go_returns
    exact ⟨_, rfl, World.ownsRow_nil _ _ _ _, by go_grown⟩
  | true =>
    rw [hs] at HC
    obtain ⟨N, rfl, hn⟩ := inB_nat9 hs
    have HA := Lib.hid (fun w => show Calls Try.prog 47 #[.int .i64 N] w (HeadsMade N w) from headsOf_any N (by omega) w)
    rw [if_pos rfl, Int.toNat_natCast]
    unfold HeadsMade at HA
    have hseq : ∀ s ∈ hdA N, isSeq s = true := fun s h => ((hdA_mem N (by omega) s).1 h).1.1
    have hlen := hdA_len N (by omega)
    obtain ⟨L, hL⟩ : ∃ L, L = hdA N := ⟨_, rfl⟩
    rw [← hL] at HA hseq hlen ⊢
    clear hs hn hL
    obtain ⟨i0, hi, hz0, hz1, hz2⟩ := info_parts infoInt
    have HI0 := Lib.hid hi
    have HZ00 := Lib.hid hz0
    have HZ10 := Lib.hid hz1
    have HZ20 := Lib.hid hz2
    have ZZ := Lib.hid zeroPh
    have SZ := Lib.hid (phA_size z32 0 z32_length)
    obtain ⟨Z, hZ⟩ : ∃ Z, Z = phA z32 0 := ⟨_, rfl⟩
    rw [← hZ] at ZZ SZ
    have SC := Lib.hid phC_size
    have OC := Lib.hid phC_one
    have IC := Lib.hid phC_info
    obtain ⟨G, hG⟩ : ∃ G : Nat → Int, G = fun u : Nat => sideE (L.getD u []) := ⟨_, rfl⟩
    have HT : L.map sideE = gen L.length G := by
      rw [hG]
      apply List.ext_getElem
      · rw [List.length_map, gen_length]
      · intro i h1 h2
        have h3 : i < L.length := by simpa using h1
        have h4 := gen_getElem? L.length (fun u : Nat => sideE (L.getD u [])) i h3
        rw [List.getElem?_eq_getElem h2] at h4
        injection h4 with h5
        rw [h5]
        simp [List.getD, h3]
    rw [HT]
    have HEN := Lib.hid (fun k (hk : k < L.length) w => show Calls Try.prog 50 #[.agg (phC (L.getD k []))] w (Ret w (.int .i64 (G k))) from by
      have hs : isSeq (L.getD k []) = true := hseq _ (by rw [getD_at _ _ hk]; exact List.getElem_mem hk)
      rw [phC_seq hs, hG]
      exact sideEnergy_any _ hs w)
    obtain ⟨n, hn⟩ : ∃ n, n = L.length := ⟨_, rfl⟩
    have HN := Lib.hid hn
    rw [← hn] at HEN HA hlen ⊢
    clear hi hz0 hz1 hz2 hZ hseq HT hG hn
    go_enter Try.func28, Try.ntmps28
    go_wp2_with fail
    refine (HC.out _).mono ?_
    rintro e w1 ⟨rfl, rfl⟩
    go_wp2_with fail
    refine (HA.out _).mono ?_
    rintro e w2 ⟨g, cap, rfl, hg, hsq, hb⟩
    have B2 := Lib.hid hb
    have SQ := Lib.hid hsq
    have NEG := Lib.hid (show g ≠ w2.heap.size from Nat.ne_of_lt hsq.1)
    clear hb hg hsq
    go_wp2_with (at_make; refine wpList_make_full _ rfl _ _ 22 rfl w2.heap.size 3 i0 (.int .i64 0) 1 Try.underlying22 HI0.out HZ00.out HZ10.out _ _ _ _ n rfl rfl rfl rfl ?b2_1 ?b3_1 (Nat.le_refl _) ?_)
    case b2_1 => rw [HZ20.out]; omega
    case b3_1 => unfold maxLen; omega
    intro w3 hown0 hgrow0
    rw [made_zeros] at hown0
    have hb : Below w2.heap.size w2 w3 := (Below.refl _ _).grown hgrow0 (Nat.le_refl _) (fun k h => by cases h)
    have B3 := Lib.hid (joins B2.out hb)
    have LG := Lib.hid (show w.heap.size ≤ w2.heap.size from B2.out.size)
    have O3 := Lib.hid hown0
    have SQ3 := Lib.hid (SQ.out.below hb)
    clear hown0 hgrow0 hb
    go_wp2_with fail
    go_loopw [18] (fun i wr => ∃ k : Nat, k ≤ n ∧ i = .int .i64 k ∧ wr.ownsRow w2.heap.size 3 1 (.slice (some ⟨w2.heap.size, 0, none⟩) n n) n ((gen k G ++ List.replicate (n - k) 0).map (Value.int .i64)) ∧ SeqsAt wr g L ∧ Below w.heap.size w wr) (fun i _ => n - (intOf i).toNat)
    case atStart => exact ⟨0, Nat.zero_le _, rfl, by simpa [gen] using O3.out, SQ3.out, B3.out⟩
    case round =>
      obtain ⟨k, hk, rfl, hown, hseq, hbel⟩ := hrel
      have RO := Lib.hid hown
      have BR := Lib.hid hbel
      have RR := Lib.hid hseq
      clear hbel hseq
      by_cases hlt : k < n
      · have h0 : (0 : Int) ≤ (k : Int) := by omega
        have h1 : (k : Int) < (n : Int) := by omega
        have HNk := Lib.hid (HEN.out k hlt)
        have HLD := Lib.hid (RR.out.2 k (by rw [← HN.out]; exact hlt))
        have hset : ((gen k G ++ List.replicate (n - k) 0).map (Value.int .i64)).set k (.int .i64 (G k)) = (gen (k + 1) G ++ List.replicate (n - (k + 1)) 0).map (Value.int .i64) := by
          rw [← List.map_set, show n - k = (n - (k + 1)) + 1 by omega, List.replicate_succ, gen_succ, List.set_append_right _ _ (by rw [gen_length]; exact Nat.le_refl _), gen_length, Nat.sub_self]
          simp
        have HSET := Lib.hid hset
        have hat : ((gen k G ++ List.replicate (n - k) 0).map (Value.int .i64))[k]? = some (.int .i64 0) := by
          rw [List.getElem?_map, List.getElem?_append_right (by rw [gen_length]; exact Nat.le_refl _), gen_length, Nat.sub_self, List.getElem?_replicate, if_pos (by omega)]
          rfl
        obtain ⟨y, hy⟩ : ∃ y, y = G k := ⟨_, rfl⟩
        rw [← hy] at HNk HSET
        obtain ⟨l, hl⟩ : ∃ l, l = L.getD k [] := ⟨_, rfl⟩
        rw [← hl] at HNk HLD
        have HAT := Lib.hid hat
        clear hset hat hy hown hl
        go_wp2_with (first
          | ((with_reducible refine at_op (d := some 22) (Op.load 47 (.tmp 21)) ?_); refine load_seq9 rfl (.tmp 21) rfl g (k * 33) rfl (phC l) HLD.out (SC.out l) ?_)
          | ((with_reducible refine at_op (d := some 7) (Op.alloc 47) ?_); refine wpList_alloc_row rfl 47 rfl Z ZZ.out ?_; intro w31 hr hb hz; have R31_p := Lib.hid hr; have L31_p := Lib.hid (show wr.heap.size ≤ wr.heap.size from Nat.le_refl _); have D31 := Lib.hid (hb); clear hr hb hz)
          | ((with_reducible refine at_op (Op.store 47 (.tmp 7) (.tmp 22)) ?_); refine wpList_put_row rfl 47 (.tmp 7) (.tmp 22) rfl (wr.heap.size) (phC l) rfl rfl 47 Z R31_p.out 33 infoPh (SC.out l) SZ.out (OC.out l) wr.heap.size wr D31.out L31_p.out ?_; intro w32 hr hs hb; have R32_p := Lib.hid hr; have F32_o := Lib.hid (rowBelow RO.out hb); have F32_s := Lib.hid (SeqsAt.below RR.out hb); have B32 := Lib.hid (joins BR.out hb); have L32_p := Lib.hid (Nat.le_trans BR.out.size L31_p.out); clear hr hs hb)
          | ((with_reducible refine at_op (d := some 25) (Op.load 47 (.tmp 7)) ?_); refine wpList_load_part rfl 47 (.tmp 7) rfl (wr.heap.size) 0 rfl (phC l) (phC l) 47 (0, 0) _ R32_p.out (Part.self _) Try.underlying47 rfl (IC.out l) ?_))
        refine (HNk.out _).mono ?_
        rintro e w40 ⟨rfl, hb⟩
        have B40 := Lib.hid (joins B32.out hb)
        have S40 := Lib.hid (SeqsAt.below F32_s.out hb)
        have O40 := Lib.hid (rowBelow F32_o.out hb)
        have c1 : w40.cell? ⟨w2.heap.size, k, none⟩ = some (.int .i64 0) := by rw [O40.out.cellAt k (by omega)]; exact HAT.out
        have c2 := O40.out.frozenAt k
        clear hb
        go_wp2_with fail
        go_roundw
        case rel =>
          have hs := O40.out.stored k (.int .i64 y)
          rw [HSET.out] at hs
          exact ⟨k + 1, by omega, by go_num, hs.1, S40.out.set NEG.out, B40.out.setCell LG.out _⟩
        case measure => simp [intOf]; omega
      · obtain rfl : k = n := by omega
        have HFI := Lib.hid (show Own wr w.heap.size (.slice (some ⟨w2.heap.size, 0, none⟩) k k) (gen k G) from by
          have := RO.out
          rw [Nat.sub_self, List.replicate_zero, List.append_nil] at this
          unfold Own
          rw [gen_length]
          exact rowMono this LG.out)
        clear hown
        go_wp2_with fail
        go_returns
        exact ⟨_, rfl, HFI.out, BR.out⟩
end
end Go.Proofs.Ytcagiecgbjnefab
