/- The program's classes as maps: classOf, ordered, least, listsOf. -/
import Derived.Test.YtcagiecgbjnefabIClU
import Derived.Test.YtcagiecgbjnefabIClD
import Derived.Test.YtcagiecgbjnefabRowM
import Derived.Test.YtcagiecgbjnefabRg
import Derived.Test.YtcagiecgbjnefabRwC
import Derived.Great.BuildSlice
import Derived.Maps.RangeWalk
import Derived.Carry
namespace Go.Proofs.Ytcagiecgbjnefab
set_option maxRecDepth 100000
open Go.RowKit

theorem laidOut9 : laidOutB Try.prog = true := by kernel_rfl
theorem keyedPh : Maps.Keyed Try.prog 47 := Maps.Keyed.of_law (deep_law_laid laidOut9 (m := 3) (by omega) (of_decide_eq_true (by kernel_rfl)) (by kernel_rfl) (by kernel_rfl))
/-- A sequence as a key. -/
def klOf (s : List Int) : Lit := .string (keyBytes (klC (padL s) s.length))
theorem keyTypePh : Try.prog.keyType 47 = true := by kernel_rfl
theorem keyOf_ph {s : List Int} (h : isSeq s = true) : keyOf Try.prog 47 (.agg (phC s)) = some (klOf s) := by
  have hD : ∃ D, Try.prog.types.size + 1 = D + 3 := ⟨Try.prog.types.size - 2, by have : 2 ≤ Try.prog.types.size := of_decide_eq_true (by kernel_rfl); omega⟩
  obtain ⟨D, hD⟩ := hD
  unfold keyOf
  rw [Try.underlying47]
  simp only [keyTypePh, formedPh _ (phC_size s), Bool.and_self, if_true, hD, Value.cells]
  rw [litsSeq D h]
  rfl
theorem klOf_key {s : List Int} (h : isSeq s = true) : WideAt.IsKeyLit (klOf s) := keyedPh.key (keyOf_ph h)
theorem klOf_inj {s t : List Int} (hs : isSeq s = true) (ht : isSeq t = true) (h : klOf s = klOf t) : s = t := by
  have h1 := keyOf_ph hs
  rw [h] at h1
  have h2 := keyedPh.inj h1 (keyOf_ph ht)
  have h3 : phC s = phC t := by injection h2
  have h4 := litsSeq 0 hs
  rw [h3, litsSeq 0 ht] at h4
  injection h4 with h5
  exact (klC_inj h5).symm
theorem same_iff {a b : Lit} (hb : WideAt.IsKeyLit b) : a.sameKey b = true ↔ a = b := ⟨fun h => WideAt.sameKey_eq h, fun h => by rw [h]; exact WideAt.sameKey_self hb⟩
/-- The keys of a map are these sequences. -/
def KeysAre (M : DataW Unit) (S : List Int → Prop) : Prop := ∀ kl, Maps.has M kl = true ↔ ∃ s, S s ∧ kl = klOf s
theorem KeysAre.put {M : DataW Unit} {S : List Int → Prop} (h : KeysAre M S) (hM : Maps.IsMap M) {t : List Int} (ht : isSeq t = true) (u : DataW Unit) : KeysAre (M.put (klOf t) u) (fun s => S s ∨ s = t) := fun kl => by
  by_cases e : kl = klOf t
  · subst e
    rw [Maps.has_put_same hM (klOf_key ht)]
    exact ⟨fun _ => ⟨t, Or.inr rfl, rfl⟩, fun _ => rfl⟩
  · rw [Maps.has_put_other e, h kl]
    constructor
    · rintro ⟨s, hs, rfl⟩; exact ⟨s, Or.inl hs, rfl⟩
    · rintro ⟨s, hs | rfl, rfl⟩
      · exact ⟨s, hs, rfl⟩
      · exact absurd rfl e
theorem KeysAre.same {M : DataW Unit} {S T : List Int → Prop} (h : KeysAre M S) (e : ∀ s, S s ↔ T s) : KeysAre M T := fun kl => by
  rw [h kl]
  exact ⟨fun ⟨s, h1, h2⟩ => ⟨s, (e s).1 h1, h2⟩, fun ⟨s, h1, h2⟩ => ⟨s, (e s).2 h1, h2⟩⟩
theorem below_grown {w w' : World} (hb : Below w.heap.size w w') : w.grownBy w' none := ⟨hb.os, hb.tape, hb.output, hb.size, fun i hi _ => hb.block i hi⟩
theorem map_below {w w' : World} {b n : Nat} {M : DataW Unit} (h : w.ownsMap Try.prog 47 (plainElem (H := Unit) Try.prog 4) b n M) (hb : Below w.heap.size w w') : w'.ownsMap Try.prog 47 (plainElem (H := Unit) Try.prog 4) b n M := h.kept (below_grown hb) (by simp)
theorem ranges_below {w w' : World} {b r n cnt : Nat} {M : DataW Unit} {left : Lit → Bool} (h : w.ranges Try.prog 47 (plainElem (H := Unit) Try.prog 4) b r n M left cnt) (hb : Below w.heap.size w w') : w'.ranges Try.prog 47 (plainElem (H := Unit) Try.prog 4) b r n M left cnt := h.kept (below_grown hb) (by simp) (by simp)
/-- A sequence laid into a class, in a region that draws. -/
theorem step_mapPut {ops : Array Oper} {o : Oper} {a : Act} {w : World} {K : Act → World → Prop} {Q : Exit → Act → World → Prop} {E : Prop} (hgd : o.guard = none) (m x v : Operand) (ho : o.op = .mapUpdate 53 m x v)
    (b n : Nat) (M : DataW Unit) (hm : a.eval m = .map (some b)) (hown : w.ownsMap Try.prog 47 (plainElem (H := Unit) Try.prog 4) b n M) (hn : n < maxLen) (s : List Int) (hs : isSeq s = true) (hx : a.eval x = .agg (phC s)) (hv : a.eval v = .bool true)
    (hK : ∀ w', w'.ownsMap Try.prog 47 (plainElem (H := Unit) Try.prog 4) b (n + 1) (M.put (klOf s) (.lit (.bool true))) → w.grownBy w' (some b) → K (a.put o.dst undef) w') :
    if Region.wanted o (yielded ops a.tmps) = true then Oper.wp Try.prog o a w K Q else E := by
  have hw : Region.wanted o (yielded ops a.tmps) = true := by simp [Region.wanted, hgd]
  rw [if_pos hw]
  obtain ⟨w', hrun, r1, r2⟩ := hown.update keyedPh Try.underlying53 hn (keyOf_ph hs) (plainElem_bool Try.underlying4 true)
  unfold Oper.wp
  simp [execOp, ho, hm, hx, hv, hrun, Result.andThen]
  exact hK w' r1 r2

set_option maxRecDepth 100000 in
set_option maxHeartbeats 4000000 in
theorem classOf_any (l : List Int) (hl : isSeq l = true) (w : World) : Calls Try.prog 37 #[.agg (phC l)] w
    (fun e w' => ∃ b M, e = .returned (.map (some b)) ∧ w.heap.size ≤ b ∧ w'.ownsMap Try.prog 47 (plainElem (H := Unit) Try.prog 4) b 64 M ∧ KeysAre M (fun s => ∃ i, i < 64 ∧ s = clX i l) ∧ Below w.heap.size w w') := by
  have hmm := @run_makeMap Try.prog
  have HOF := Lib.hid (fun (k : Nat) (hk : k < 64) w => show Calls Try.prog 66 #[.agg #[.int .i64 ((k : Int) / 16), .int .i64 ((k : Int) / 4 % 4), .int .i64 ((k : Int) / 2 % 2), .int .i64 ((k : Int) % 2)], .agg (phC l)] w (Ret w (.agg (phC (clX k l)))) from moveOf_any _ _ _ _ (by omega) (by omega) (by omega) (by omega) l hl w)
  have HAT := Lib.hid (fun (k : Nat) (hk : k < 64) w => show Calls Try.prog 65 #[.int .i64 k] w (Ret w (.agg #[.int .i64 ((k : Int) / 16), .int .i64 ((k : Int) / 4 % 4), .int .i64 ((k : Int) / 2 % 2), .int .i64 ((k : Int) % 2)])) from moveAt_any k hk w)
  have HSQ := Lib.hid (fun k => clX_seq k l hl)
  have I0 := Lib.hid (phC_info l)
  obtain ⟨C0, h0⟩ : ∃ C, C = phC l := ⟨_, rfl⟩
  rw [← h0] at HOF I0 ⊢
  obtain ⟨X, hX⟩ : ∃ X : Nat → List Int, X = fun k => clX k l := ⟨_, rfl⟩
  have hXk : ∀ k, clX k l = X k := fun k => by rw [hX]
  simp only [hXk] at HOF HSQ ⊢
  clear h0 hX hXk hl
  have B0 := Lib.hid (Below.refl w.heap.size w)
  go_enter Try.func37, Try.ntmps37
  go_wp2_with ((with_reducible refine at_op (Op.box 47 (.tmp 0)) ?_); refine wpList_box_row rfl 47 (.tmp 0) rfl C0 rfl ?_; intro w1 hr hb hz; have R1_p := Lib.hid hr; have B1 := Lib.hid (joins B0.out hb); have L1_p := Lib.hid (show w.heap.size ≤ w.heap.size from B0.out.size); clear hr hb hz)
  have R0 := Lib.hid (rowB R1_p.out (belowa (Below.refl _ _) (.map #[] 0)))
  have NE := Lib.hid (show w.heap.size ≠ w1.heap.size from Nat.ne_of_lt (row_lt R1_p.out))
  have BB := Lib.hid B1.out
  go_loopw [6] (fun x wr => ∃ (k : Nat) (M : DataW Unit), k ≤ 64 ∧ x = .int .i64 k ∧ wr.ownsMap Try.prog 47 (plainElem (H := Unit) Try.prog 4) w1.heap.size k M ∧ KeysAre M (fun s => ∃ i, i < k ∧ s = X i) ∧ wr.heap[w.heap.size]? = some (.cells C0 47 (0, 0)) ∧ Below w.heap.size w wr) (fun x _ => 64 - (intOf x).toNat)
  case atStart => exact ⟨0, _, Nat.zero_le _, rfl, World.ownsMap_made w1 _ _ _, fun kl => ⟨fun h => by simp [Maps.has] at h, fun ⟨s, ⟨i, h, _⟩, _⟩ => absurd h (Nat.not_lt_zero _)⟩, R0.out, belowa BB.out _⟩
  case round =>
    obtain ⟨k, M, hk, rfl, hown, hkeys, hrow, hbel⟩ := hrel
    have MO := Lib.hid hown
    have MK := Lib.hid hkeys
    have RP := Lib.hid hrow
    have BR := Lib.hid hbel
    clear hown hkeys hrow hbel
    by_cases hlt : k < 64
    · have h0 : (0 : Int) ≤ (k : Int) := by omega
      have h1 : (k : Int) < 64 := by omega
      have HOk := Lib.hid (HOF.out k hlt)
      have HAk := Lib.hid (HAT.out k hlt)
      have HSk := Lib.hid (HSQ.out k)
      have MKN := Lib.hid (show KeysAre (M.put (klOf (X k)) (.lit (.bool true))) (fun s => ∃ i, i < k + 1 ∧ s = X i) from (MK.out.put MO.out.isMap HSk.out _).same (fun s => by
        constructor
        · rintro (⟨i, hi, rfl⟩ | rfl)
          · exact ⟨i, by omega, rfl⟩
          · exact ⟨k, by omega, rfl⟩
        · rintro ⟨i, hi, rfl⟩
          rcases Nat.lt_succ_iff_lt_or_eq.1 hi with h | h
          · exact Or.inl ⟨i, h, rfl⟩
          · exact Or.inr (by rw [h])))
      obtain ⟨s, hs⟩ : ∃ s, s = X k := ⟨_, rfl⟩
      rw [← hs] at HOk HSk MKN
      have HKM := Lib.hid (show k < maxLen by unfold maxLen; omega)
      clear hs
      go_wp2_with fail
      refine wp_region_held_drew (S := (fun w' => World.grownBy wr w' (some (w1.heap.size)))) (by kernel_rfl) (grownDrew (World.grownBy.refl _ _)) ?_
      obtain ⟨d1, hdw⟩ : ∃ w', w' = wr.drew := ⟨_, rfl⟩
      rw [← hdw]
      have hb : Below wr.heap.size wr d1 := by rw [hdw]; exact belowN (Below.refl _ _) 1
      have F1_M := Lib.hid (map_below MO.out hb)
      have F1_P := Lib.hid (rowB RP.out hb)
      have F1_B := Lib.hid (joins BR.out hb)
      clear hdw hb
      intro hHeld
      refine' wpAnyH_take (i := 0) (v := _) rfl (by kernel_rfl) (by kernel_rfl) (by kernel_rfl) (fun _ _ _ h => h) (Or.inl ⟨by rfl, ?hy1⟩) (by assumption) ?rest1
      case hy1 =>
        intro w h
        (try clear h)
        go_simp
        (try with_reducible rfl)
      (try simp only [Act.put, List.getElem_toArray, List.getElem_cons_zero, List.setIfInBounds_toArray, List.set_cons_zero, List.set_cons_succ])
      refine' wpAnyH_take (i := 1) (v := _) rfl (by kernel_rfl) (by kernel_rfl) (by kernel_rfl) (fun _ _ _ h => h) (Or.inl ⟨by rfl, ?hy2⟩) (by assumption) ?rest2
      case hy2 =>
        intro w h
        (try clear h)
        go_simp
        (try with_reducible rfl)
      (try simp only [Act.put, List.getElem_toArray, List.getElem_cons_zero, List.getElem_cons_succ, List.setIfInBounds_toArray, List.set_cons_zero, List.set_cons_succ])
      refine' wpAnyH_take (i := 3) (v := _) rfl (by kernel_rfl) (by kernel_rfl) (by kernel_rfl) (fun _ _ _ h => h) (yieldsPart (by rfl) 47 (.tmp 1) rfl (w.heap.size) 0 rfl C0 C0 47 (0, 0) _ (fun w h => rowG RP.out h (fun e => NE.out (Option.some.inj e))) (Part.self _) Try.underlying47 rfl I0.out) (by assumption) ?rest3
      (try simp only [Act.put, List.getElem_toArray, List.getElem_cons_zero, List.getElem_cons_succ, List.setIfInBounds_toArray, List.set_cons_zero, List.set_cons_succ])
      refine wpAnyH_ready (rs := [2]) (by kernel_rfl) (by simp) ?_
      refine AllReadyH.cons rfl (fun K hK => ?_) AllReadyH.nil
      go_simp
      refine (HAk.out _).mono ?_
      rintro e d2 ⟨rfl, hb⟩
      have F2_M := Lib.hid (map_below F1_M.out hb)
      have F2_P := Lib.hid (rowB F1_P.out hb)
      have F2_B := Lib.hid (joins F1_B.out hb)
      have hHeld := grownB hHeld hb
      clear hb
      refine hK.out _ _ hHeld (fun hHeld => ?_)
      clear hK K
      (try simp only [Act.put, List.getElem_toArray, List.getElem_cons_zero, List.getElem_cons_succ, List.setIfInBounds_toArray, List.set_cons_zero, List.set_cons_succ])
      refine wpAnyH_ready (rs := [4]) (by kernel_rfl) (by simp) ?_
      refine AllReadyH.cons rfl (fun K hK => ?_) AllReadyH.nil
      go_simp
      refine (HOk.out _).mono ?_
      rintro e d3 ⟨rfl, hb⟩
      have F3_M := Lib.hid (map_below F2_M.out hb)
      have F3_P := Lib.hid (rowB F2_P.out hb)
      have F3_B := Lib.hid (joins F2_B.out hb)
      have hHeld := grownB hHeld hb
      clear hb
      refine hK.out _ _ hHeld (fun hHeld => ?_)
      clear hK K
      (try simp only [Act.put, List.getElem_toArray, List.getElem_cons_zero, List.getElem_cons_succ, List.setIfInBounds_toArray, List.set_cons_zero, List.set_cons_succ])
      refine wpAnyH_ready (rs := [5]) (by kernel_rfl) (by simp) ?_
      refine AllReadyH.cons rfl (fun K hK => ?_) AllReadyH.nil
      refine step_mapPut rfl (.tmp 9) (.tmp 13) _ rfl w1.heap.size k M rfl F3_M.out HKM.out s HSk.out rfl rfl ?_
      intro w9 hm9 hg9
      have hHeld := grown_trans hHeld hg9
      have M9 := Lib.hid hm9
      have P9 := Lib.hid (rowG F3_P.out hg9 (fun e => NE.out (Option.some.inj e)))
      have B9 := Lib.hid (F3_B.out.grown hg9 F3_B.out.size (fun k h => by cases h; exact Nat.le_trans (Nat.le_refl _) BB.out.size))
      clear hm9 hg9
      refine hK.out _ _ hHeld (fun hHeld => ?_)
      clear hK K
      (try simp only [Act.put])
      refine wpAnyH_done (by kernel_rfl) ?_ _
      go_wp2_with fail
      go_roundw
      case rel => exact ⟨k + 1, _, by omega, by go_num, M9.out, MKN.out, P9.out, B9.out⟩
      case measure => simp [intOf]; omega
    · obtain rfl : k = 64 := by omega
      have hbl : w.heap.size ≤ w1.heap.size := BB.out.size
      go_wp2_with fail
      go_returns
      exact ⟨_, M, rfl, hbl, MO.out, MK.out, BR.out⟩

theorem wpList_next_ph (w : World) {ops : Array Oper} {rest : List Oper} {o : Oper} {a : Act} {Q : Exit → Act → World → Prop} (hg : o.guard = none) (it : Operand) (hop : o.op = Op.next it false)
    (b r n : Nat) (M : DataW Unit) (left : Lit → Bool) (cnt : Nat) (hit : a.eval it = .pointer (some ⟨r, 0, none⟩)) (h : w.ranges Try.prog 47 (plainElem (H := Unit) Try.prog 4) b r n M left cnt)
    (S : List Int → Prop) (hS : ∀ s, S s → isSeq s = true) (hleft : ∀ kl, left kl = true → ∃ s, S s ∧ kl = klOf s)
    (hDone : cnt = 0 → (∀ kl, left kl = false) → wpList Try.prog ops Q rest (a.put o.dst (.tuple #[.bool false])) w)
    (hMore : ∀ (s : List Int) (x : Value) (w' : World) (cnt' : Nat), S s → left (klOf s) = true → w'.ranges Try.prog 47 (plainElem (H := Unit) Try.prog 4) b r n M (fun z => left z && !z.sameKey (klOf s)) cnt' → cnt' < cnt →
      w.grownBy w' (some r) → w'.heap.size = w.heap.size → (Instr.entry (.pointer (some ⟨r, 0, none⟩))).run Try.prog w' = .ok (.tuple #[.agg (phC s), x]) w' → wpList Try.prog ops Q rest (a.put o.dst (.tuple #[.bool true, .agg (phC s), x])) w') :
    wpList Try.prog ops Q (o :: rest) a w := by
  refine wpList_next_ranges w hg it hop 47 keyedPh (plainElem (H := Unit) Try.prog 4) (fun x : Value => x) (fun x : Value => x) (fun key kl _ => ⟨key, rfl⟩) (fun v _ _ => ⟨v, rfl⟩) b r n M left cnt hit h hDone (fun x c kl y w' cnt' hkey hlk hv hat hrg hlt hgr hsz hen => ?_)
  obtain ⟨s, hs, rfl⟩ := hleft kl hlk
  have := keyedPh.inj hkey (keyOf_ph (hS s hs))
  subst this
  exact hMore s c w' cnt' hs hlk hrg hlt hgr hsz hen
theorem infoPn : (Try.prog.info? 47).map (fun i => (i.zero, i.size, i.bytes)) = some (some (.agg (phA z32 0)), 33, 264) := by kernel_rfl
theorem fill_one9 (i0 : TypeInfo) (h : i0.size = 33) (C : Array Value) (hC : C.size = 33) : Instr.fill (fun i => some (i * i0.size, i0.size)) ((Array.range (1 * i0.size)).map ((Value.agg (phA z32 0)).cells[· % (Value.agg (phA z32 0)).cells.size]!)) [(0, .agg C)] = some C := by
  rw [h]
  have := Great.fill_whole (s := 33) (by omega) [.agg C] ((Array.range (1 * 33)).map ((Value.agg (phA z32 0)).cells[· % (Value.agg (phA z32 0)).cells.size]!)) (by intro v hv; simp at hv; subst hv; simpa [Value.cells] using hC) (by simp)
  simpa [Value.cells] using this
theorem parts_one9 (a : Act) (k : Tmp) : ((#[(0, Operand.tmp k)] : Array (Nat × Operand)).map fun (i, x) => (i, a.eval x)).toList = [(0, a.eval (.tmp k))] := by simp
theorem news_row9 (w : World) (C : Array Value) (t : TypeId) : ∀ j u, C.toList[j]? = some u → (w.alloc (.cells C t)).cell? ((⟨w.heap.size, 0, none⟩ : Addr).add j) = some u := by
  intro j u hj
  rw [Addr.add_lit, Nat.zero_add, cell_of_row _ _ _ _ _ _ (heap_alloc_new w _)]
  simpa using hj
theorem OwnQ.below {w w' : World} {B : Nat} {v : Value} {L : List (List Int)} (h : OwnQ w B v L) (hb : Below w.heap.size w w') : OwnQ w' B v L := rowBelow h hb
theorem OwnQ.shape {w : World} {B : Nat} {v : Value} {L : List (List Int)} (h : OwnQ w B v L) (hp : 0 < L.length) : ∃ g cap, v = .slice (some ⟨g, 0, none⟩) L.length cap ∧ B ≤ g := by
  rcases h.2 with ⟨rfl, h0⟩ | ⟨g, cap, cur, rfl, hg, rest⟩
  · omega
  · exact ⟨g, cap, rfl, hg⟩
/-- What has come of a class ranged over. -/
structure Come (R : List (List Int)) (left : Lit → Bool) (ss : List (List Int)) : Prop where
  nodup : ss.Nodup
  sub : ∀ s ∈ ss, s ∈ R
  gone : ∀ s ∈ R, left (klOf s) = true ↔ s ∉ ss
  keys : ∀ kl, left kl = true → ∃ s, s ∈ R ∧ kl = klOf s
theorem Come.start {R : List (List Int)} {M : DataW Unit} (h : KeysAre M (· ∈ R)) : Come R (Maps.has M) [] :=
  ⟨List.nodup_nil, by simp, fun s hs => by simp [(h (klOf s)).2 ⟨s, hs, rfl⟩], fun kl hk => (h kl).1 hk⟩
theorem Come.step {R : List (List Int)} {left : Lit → Bool} {ss : List (List Int)} (h : Come R left ss) (hR : ∀ s ∈ R, isSeq s = true) {t : List Int} (ht : t ∈ R) (hl : left (klOf t) = true) : Come R (fun z => left z && !z.sameKey (klOf t)) (ss ++ [t]) := by
  refine ⟨?_, fun s hs => ?_, fun s hs => ?_, fun kl hk => h.keys kl (Bool.and_eq_true_iff.1 hk).1⟩
  · rw [List.nodup_append]
    exact ⟨h.nodup, by simp, fun a ha b hb => by simp at hb; subst hb; intro e; subst e; exact (h.gone _ ht).1 hl ha⟩
  · rcases List.mem_append.1 hs with h1 | h1
    · exact h.sub s h1
    · simp at h1; subst h1; exact ht
  · have hk := klOf_key (hR t ht)
    simp only [Bool.and_eq_true, Bool.not_eq_true', List.mem_append, List.mem_singleton, not_or]
    rw [h.gone s hs]
    constructor
    · rintro ⟨h1, h2⟩
      refine ⟨h1, fun e => ?_⟩
      subst e
      rw [WideAt.sameKey_self hk] at h2
      cases h2
    · rintro ⟨h1, h2⟩
      refine ⟨h1, ?_⟩
      cases h3 : (klOf s).sameKey (klOf t) with
      | false => rfl
      | true => exact absurd (klOf_inj (hR s hs) (hR t ht) (WideAt.sameKey_eq h3)) h2
theorem Come.done {R : List (List Int)} {left : Lit → Bool} {ss : List (List Int)} (h : Come R left ss) (hl : ∀ kl, left kl = false) : ∀ s, s ∈ ss ↔ s ∈ R := fun s => ⟨h.sub s, fun hs => by
  by_cases e : s ∈ ss
  · exact e
  · have := (h.gone s hs).2 e
    rw [hl] at this; cases this⟩
theorem nodup_le : ∀ {ss R : List (List Int)}, ss.Nodup → (∀ s ∈ ss, s ∈ R) → ss.length ≤ R.length
  | [], _, _, _ => Nat.zero_le _
  | a :: l, R, h, hs => by
    obtain ⟨h1, h2⟩ := List.nodup_cons.1 h
    have ha := hs a (by simp)
    have := nodup_le h2 (R := R.erase a) (fun s hm => (List.mem_erase_of_ne (fun e => h1 (by rw [← e]; exact hm))).2 (hs s (by simp [hm])))
    rw [List.length_erase_of_mem ha] at this
    have hp := List.length_pos_of_mem ha
    simp only [List.length_cons]; omega
set_option maxRecDepth 100000 in
set_option maxHeartbeats 4000000 in
theorem ordered_any (n : Nat) (hn : n ≤ 15) (R : List (List Int)) (hR : ∀ s ∈ R, isSeq s = true ∧ s.length = n) (hup : R.Pairwise (fun a b => rk a < rk b)) (hpos : 0 < R.length) (hlen : R.length ≤ 100000)
    (b nn : Nat) (M : DataW Unit) (w : World) (hown : w.ownsMap Try.prog 47 (plainElem (H := Unit) Try.prog 4) b nn M) (hk : KeysAre M (· ∈ R)) :
    Calls Try.prog 38 #[.map (some b)] w (fun e w' => ∃ g cap, e = .returned (.slice (some ⟨g, 0, none⟩) R.length cap) ∧ w.heap.size ≤ g ∧ SeqsAt w' g R ∧ Below w.heap.size w w') := by
  obtain ⟨i0, hi, hz0, hz1, hz2⟩ := info_parts infoPn
  have HI := Lib.hid hi
  have HZ0 := Lib.hid hz0
  have HZ1 := Lib.hid hz1
  have HZ2 := Lib.hid hz2
  have ZZ := Lib.hid zeroPh
  have SZ := Lib.hid (phA_size z32 0 z32_length)
  obtain ⟨Z, hZ⟩ : ∃ Z, Z = phA z32 0 := ⟨_, rfl⟩
  have HZE := Lib.hid hZ
  have SC := Lib.hid phC_size
  have OC := Lib.hid phC_one
  have IC := Lib.hid phC_info
  have HRS := Lib.hid (fun s hs => (hR s hs).1)
  have HST := Lib.hid (Come.start hk)
  have HLE := Lib.hid hlen
  have HSO := Lib.hid (fun ss (h1 : ss.Nodup) (h2 : ∀ s, s ∈ ss ↔ s ∈ R) (h3 : ss.length ≤ 1048576) g cap B w h4 => sort_any n hn ss R (fun s hs => hR s ((h2 s).1 hs)) h1 hup h2 h3 g cap B w h4)
  have HPO := Lib.hid hpos
  have MO := Lib.hid hown
  rw [← hZ] at ZZ SZ
  clear hi hz0 hz1 hz2 hZ hR hup hpos hlen hk hown
  go_enter Try.func38, Try.ntmps38
  go_wp2_with (at_range; refine wpList_range_own _ rfl _ 53 rfl 47 4 keyedPh Try.underlying53 (plainElem (H := Unit) Try.prog 4) b nn M rfl MO.out ?_; intro w0 hrg0 hg0 hs0)
  go_frame
  have B0_ := Lib.hid ((Below.refl w.heap.size w).grown hg0 (Nat.le_refl _) (fun k h => by cases h))
  have RG0 := Lib.hid hrg0
  have HS0 := Lib.hid hs0
  clear hrg0 hg0 hs0
  go_loopw [3] (fun o wr => ∃ (left : Lit → Bool) (cnt : Nat) (ss : List (List Int)), wr.ranges Try.prog 47 (plainElem (H := Unit) Try.prog 4) b w.heap.size nn M left cnt ∧ OwnQ wr w0.heap.size o ss ∧ Come R left ss ∧ Below w.heap.size w wr ∧ w0.heap.size ≤ wr.heap.size) (fun _ wr => wr.rangeLeft b w.heap.size)
  case atStart => exact ⟨_, _, [], RG0.out, World.ownsRow_nil _ _ _ _, HST.out, B0_.out, Nat.le_refl _⟩
  case round =>
    obtain ⟨left, cnt, ss, hrg, hoq, hcome, hbel, hsz⟩ := hrel
    have RG := Lib.hid hrg
    have OQ := Lib.hid hoq
    have CO := Lib.hid hcome
    have BR := Lib.hid hbel
    have SZR := Lib.hid hsz
    have HSL := Lib.hid (show ss.length ≤ 1048576 by have := nodup_le hcome.nodup hcome.sub; have := HLE.out; omega)
    clear hoq hcome hbel hsz
    go_wp2_with (at_next; refine wpList_next_ph _ rfl _ rfl b w.heap.size nn M left cnt rfl RG.out (· ∈ R) HRS.out CO.out.keys ?_ ?_)
    · intro _ hl0
      have HMEM := Lib.hid (CO.out.done hl0)
      have hssp : 0 < ss.length := by
        have h1 : R.getD 0 [] ∈ R := by rw [getD_at _ _ HPO.out]; exact List.getElem_mem HPO.out
        exact List.length_pos_of_mem ((HMEM.out _).2 h1)
      obtain ⟨g, cap, hoe, hgB⟩ := OQ.out.shape hssp
      subst hoe
      have HGB := Lib.hid (show w.heap.size ≤ g by have := HS0.out; omega)
      have HSR := Lib.hid (HSO.out ss CO.out.nodup HMEM.out HSL.out g cap _ _ OQ.out)
      clear hl0 hssp hgB
      go_wp2_with fail
      refine (HSR.out).mono ?_
      rintro e w2 ⟨rfl, hsq, hb, hlr⟩
      have HSQ := Lib.hid hsq
      have B2 := Lib.hid (BR.out.trans (hb.mono HGB.out))
      have HLR := Lib.hid hlr
      clear hsq hb hlr
      go_wp2_with fail
      go_returns
      exact ⟨g, cap, by rw [HLR.out]; rfl, HGB.out, HSQ.out, B2.out⟩
    · intro s x w1 cnt1 hs hl hrg1 hltc hg1 hsz1 hen
      have CO1 := Lib.hid (CO.out.step HRS.out hs hl)
      have RG1 := Lib.hid hrg1
      have LT1 := Lib.hid hltc
      have hb1 : Below w.heap.size w w1 := BR.out.grown hg1 BR.out.size (fun k h => by cases h; exact Nat.le_refl _)
      have B1 := Lib.hid hb1
      have OQ1 := Lib.hid (show OwnQ w1 w0.heap.size u3 ss from World.ownsRow.kept OQ.out hg1 (by
        cases hv : u3.ownBlock with
        | none => exact Or.inl rfl
        | some k => exact Or.inr (fun e => by have := (World.ownsRow.lt OQ.out k hv).1; have := HS0.out; injection e with e2; omega)))
      have HSZ1 := Lib.hid hsz1
      have ONE := Lib.hid (fun v (hv : v ∈ (phC s).toList) => show v.oneCell' = true from by
        have h1 := phC_one s
        rw [Array.all_eq_true_iff_forall_mem] at h1
        exact h1 v (by simpa using hv))
      clear hs hl hrg1 hltc hb1 hg1 hsz1
      go_wp2_with (first
        | ((with_reducible refine at_op (d := some 4) (Op.alloc 47) ?_); refine wpList_alloc_row rfl 47 rfl Z ZZ.out ?_; intro w11 hr hb hz; have R11_p := Lib.hid hr; have L11_p := Lib.hid (show w1.heap.size ≤ w1.heap.size from Nat.le_refl _); have D11 := Lib.hid (hb); clear hr hb hz)
        | ((with_reducible refine at_op (Op.store 47 (.tmp 4) (.tmp 10)) ?_); refine wpList_put_row rfl 47 (.tmp 4) (.tmp 10) rfl (w1.heap.size) (phC s) rfl rfl 47 Z R11_p.out 33 infoPh (SC.out s) SZ.out (OC.out s) w1.heap.size w1 D11.out L11_p.out ?_; intro w12 hr hs hb; have R12_p := Lib.hid hr; have F12_o := Lib.hid (OwnQ.below OQ1.out hb); have F12_g := Lib.hid (ranges_below RG1.out hb); have B12 := Lib.hid (joins B1.out hb); have L12_p := Lib.hid (Nat.le_trans B1.out.size L11_p.out); have LSZ := Lib.hid (show w1.heap.size ≤ w12.heap.size from hb.size); clear hr hs hb)
        | ((with_reducible refine at_op (d := some 12) (Op.load 47 (.tmp 4)) ?_); refine wpList_load_part rfl 47 (.tmp 4) rfl (w1.heap.size) 0 rfl (phC s) (phC s) 47 (0, 0) _ R12_p.out (Part.self _) Try.underlying47 rfl (IC.out s) ?_)
        | (refine wpList_buildSlice rfl 51 47 1 #[(0, .tmp 12)] rfl (phC s) i0 (.agg (phA z32 0)) Try.underlying51 HI.out HZ0.out (by rw [HZ1.out]; decide) (by rw [HZ1.out]; decide) (by rw [parts_one9]; exact fill_one9 i0 HZ1.out (phC s) (SC.out s)) ?_)
        | (at_builtin; refine wpList_append_own _ rfl (.tmp 11) (.tmp 13) 51 rfl w0.heap.size 47 i0 (.agg (phA z32 0)) 33 264 Try.underlying51 HI.out HZ0.out HZ1.out HZ2.out (phA_size _ _ z32_length) (by decide) _ ss.length (seqCells ss) rfl (F12_o.out.alloc _) ⟨w12.heap.size, 0, none⟩ 1 1 (phC s).toList rfl (by rw [Array.length_toList, SC.out]) (news_row9 w12 (phC s) _) ONE.out (by have := HSL.out; unfold maxLen; omega) (by have := HSL.out; omega) (by have := SZR.out; have := HSZ1.out; have := LSZ.out; simp; omega) ?_; intro v5 w5 ho5 hg5 _))
      have OQ5 := Lib.hid (show OwnQ w5 w0.heap.size v5 (ss ++ [s]) from by unfold OwnQ; rw [List.length_append, seqCells_snoc]; exact ho5)
      have B5 := Lib.hid ((belowa B12.out (.cells (phC s) 47)).grown hg5 (by have := B12.out.size; simp; omega) (fun k hk => by have := (World.ownsRow.lt F12_o.out k hk).1; have := HS0.out; omega))
      have RG5 := Lib.hid ((ranges_below F12_g.out (belowa (Below.refl _ _) (.cells (phC s) 47))).kept hg5 (fun e => by
          have h1 := (World.ownsRow.lt F12_o.out b e.symm).1
          have h2 := MO.out.lt
          have h3 := HS0.out
          omega) (fun e => by
          have h1 := (World.ownsRow.lt F12_o.out w.heap.size e.symm).1
          have h3 := HS0.out
          omega))
      have SZ5 := Lib.hid (show w0.heap.size ≤ w5.heap.size by have h1 := hg5.size; have h2 := SZR.out; have h3 := HSZ1.out; have h4 := LSZ.out; simp at h1; omega)
      clear ho5 hg5
      go_wp2_with fail
      go_roundw
      case rel => exact ⟨_, cnt1, ss ++ [s], RG5.out, OQ5.out, CO1.out, B5.out, SZ5.out⟩
      case measure => rw [RG5.out.left_eq, RG.out.left_eq]; exact LT1.out
end Go.Proofs.Ytcagiecgbjnefab
