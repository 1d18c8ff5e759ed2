/- Sequences compared by rank: slices.Compare, cmp.Compare, byRank. A list of sequences sorted by rank: slices.SortFunc with byRank. -/
import Derived.Shelf.SlSortCmp.NoneTotal
import Derived.Shelf.Lay
import Derived.Test.YtcagiecgbjnefabClR
import Derived.Test.YtcagiecgbjnefabClE
import Derived.Test.YtcagiecgbjnefabSortLay
namespace Go.Proofs.Ytcagiecgbjnefab
set_option maxRecDepth 100000
section
open Go.RowKit

set_option maxHeartbeats 1000000 in
theorem cmpInt_any (a b : Int) (w : World) : Calls Try.prog 114 #[.int .i64 a, .int .i64 b] w (Pure w (.int .i64 (if a < b then -1 else if b < a then 1 else 0))) := by
  by_cases h1 : a < b
  · rw [if_pos h1]
    go_enter Try.func114, Try.ntmps114
    go_wp2
    go_returns
    exact ⟨rfl, rfl⟩
  · rw [if_neg h1]
    by_cases h2 : b < a
    · rw [if_pos h2]
      go_enter Try.func114, Try.ntmps114
      go_wp2
      go_returns
      exact ⟨rfl, rfl⟩
    · rw [if_neg h2]
      go_enter Try.func114, Try.ntmps114
      go_wp2
      go_returns
      exact ⟨rfl, rfl⟩
theorem cmpI_drop (x y : List Int) (hl : x.length = y.length) (k : Nat) (hk : k < x.length) : cmpI (x.drop k) (y.drop k) = if x.getD k 0 < y.getD k 0 then -1 else if y.getD k 0 < x.getD k 0 then 1 else cmpI (x.drop (k + 1)) (y.drop (k + 1)) := by
  rw [List.drop_eq_getElem_cons hk, List.drop_eq_getElem_cons (show k < y.length by omega)]
  simp [cmpI, List.getD, hk, show k < y.length by omega]
set_option maxRecDepth 100000 in
set_option maxHeartbeats 1000000 in
theorem compare_any (g1 g2 : Nat) (x y : List Int) (hx : x.length = 32) (hy : y.length = 32) (w : World) (h1 : ∀ i, i < 32 → w.cell? ⟨g1, i, none⟩ = some (.int .i64 (x.getD i 0))) (h2 : ∀ i, i < 32 → w.cell? ⟨g2, i, none⟩ = some (.int .i64 (y.getD i 0))) :
    Calls Try.prog 92 #[.slice (some ⟨g1, 0, none⟩) 32 32, .slice (some ⟨g2, 0, none⟩) 32 32] w (Pure w (.int .i64 (cmpI x y))) := by
  have H1 := Lib.hid h1
  have H2 := Lib.hid h2
  have HD := Lib.hid (cmpI_drop x y (by omega))
  have HE := Lib.hid (show cmpI (x.drop 32) (y.drop 32) = 0 from by rw [List.drop_eq_nil_of_le (by omega), List.drop_eq_nil_of_le (by omega)]; rfl)
  have H0 := Lib.hid (show cmpI (x.drop 0) (y.drop 0) = cmpI x y from rfl)
  have HX := Lib.hid hx
  clear h1 h2 hx hy
  obtain ⟨c, hc⟩ : ∃ c, c = cmpI x y := ⟨_, rfl⟩
  rw [← hc] at H0 ⊢
  clear hc
  go_enter Try.func92, Try.ntmps92
  go_wp2_with fail
  go_loop [11] (fun i => ∃ k : Nat, k ≤ 32 ∧ i = .int .i64 k ∧ cmpI (x.drop k) (y.drop k) = c) (fun i => 32 - (intOf i).toNat)
  case atStart => exact ⟨0, Nat.zero_le _, rfl, H0.out⟩
  case round =>
    obtain ⟨k, hk, rfl, hc⟩ := hrel
    by_cases hlt : k < 32
    · have c1 := H1.out k hlt
      have c2 := H2.out k hlt
      have hd := HD.out k (by rw [HX.out]; exact hlt)
      rw [hc] at hd
      have h0 : (0 : Int) ≤ (k : Int) := by omega
      have h1 : (k : Int) < 32 := by omega
      obtain ⟨a, ha⟩ : ∃ a, a = x.getD k 0 := ⟨_, rfl⟩
      obtain ⟨b, hb⟩ : ∃ a, a = y.getD k 0 := ⟨_, rfl⟩
      rw [← ha] at c1 hd
      rw [← hb] at c2 hd
      have HCI := Lib.hid (cmpInt_any a b)
      clear ha hb hc
      by_cases h3 : a < b
      · rw [if_pos h3] at hd HCI
        subst hd
        go_wp2_with fail
        refine (HCI.out _).mono ?_
        rintro e w' ⟨rfl, rfl⟩
        go_wp2_with fail
        go_returns
        exact ⟨rfl, rfl⟩
      · rw [if_neg h3] at hd HCI
        by_cases h4 : b < a
        · rw [if_pos h4] at hd HCI
          subst hd
          go_wp2_with fail
          refine (HCI.out _).mono ?_
          rintro e w' ⟨rfl, rfl⟩
          go_wp2_with fail
          go_returns
          exact ⟨rfl, rfl⟩
        · rw [if_neg h4] at hd HCI
          have HDD := Lib.hid hd
          clear hd
          go_wp2_with fail
          refine (HCI.out _).mono ?_
          rintro e w' ⟨rfl, rfl⟩
          go_wp2_with fail
          go_round
          case rel => exact ⟨k + 1, by omega, by go_num, HDD.out.symm⟩
          case measure => simp [intOf]; omega
    · obtain rfl : k = 32 := by omega
      rw [HE.out] at hc
      subst hc
      go_wp2_with fail
      go_returns
      exact ⟨rfl, rfl⟩
/-- A value laid in a new block: the world as it is behind. -/
theorem wpList_box_is {ops : Array Oper} {rest : List Oper} {o : Oper} {a : Act} {w : World} {Q : Exit → Act → World → Prop} (hg : o.guard = none) (t : TypeId) (x : Operand) (ho : o.op = .box t x)
    (C : Array Value) (hx : a.eval x = .agg C) (h : wpList Try.prog ops Q rest (a.put o.dst (.pointer (some ⟨w.heap.size, 0, none⟩))) (w.alloc (.cells C t))) : wpList Try.prog ops Q (o :: rest) a w := by
  refine wpList_plain hg fun K hK => ?_
  unfold Oper.wp execOp
  simp only [ho, hx, Instr.box, newVar, Sem.run_bind, Sem.run_pure, Value.cells, Oper.upon]
  exact hK _ _ h
set_option maxRecDepth 100000 in
set_option maxHeartbeats 2000000 in
theorem byRank_any (p q : List Int) (hp : isSeq p = true) (hq : isSeq q = true) (hl : p.length = q.length) (w : World) :
    Calls Try.prog 68 #[.agg (phC p), .agg (phC q)] w (fun e w' => e = .returned (.int .i64 (cmpI p q)) ∧ ∃ n, w' = ((w.alloc (.cells (phC p) 47)).alloc (.cells (phC q) 47)).drewN n) := by
  have h32 := isSeq_len hp
  have h32q := isSeq_len hq
  have hlp : (padL p).length = 32 := padL_length h32
  have hlq : (padL q).length = 32 := padL_length h32q
  have hcm : cmpI (padL p) (padL q) = cmpI p q := by unfold padL; rw [hl]; exact cmpI_pad p q _ hl
  have HCP := Lib.hid (fun i (hi : i < 32) => show (phC p)[i]? = some (.int .i64 ((padL p).getD i 0)) from by rw [phC_seq hp]; exact phA_get _ _ i (by omega))
  have HCQ := Lib.hid (fun i (hi : i < 32) => show (phC q)[i]? = some (.int .i64 ((padL q).getD i 0)) from by rw [phC_seq hq]; exact phA_get _ _ i (by omega))
  have HS1 := fun w => slice_all (w.heap.size) w
  obtain ⟨C, hC⟩ : ∃ C, C = phC p := ⟨_, rfl⟩
  obtain ⟨D, hD⟩ : ∃ C, C = phC q := ⟨_, rfl⟩
  rw [← hC] at HCP ⊢
  rw [← hD] at HCQ ⊢
  rw [← hcm]
  obtain ⟨W, hW⟩ : ∃ W, W = (w.alloc (.cells C 47)).alloc (.cells D 47) := ⟨_, rfl⟩
  rw [← hW]
  have HC := Lib.hid (fun n => compare_any w.heap.size (w.heap.size + 1) (padL p) (padL q) hlp hlq (W.drewN n) (fun i hi => by
      have h1 : (w.alloc (.cells C 47)).cell? ⟨w.heap.size, i, none⟩ = some (.int .i64 ((padL p).getD i 0)) := rowC (heap_alloc_new w _) (HCP.out i hi)
      rw [hW]
      exact keepc (belowa (Below.refl _ _) _) h1)
    (fun i hi => by
      have h1 : ((w.alloc (.cells C 47)).alloc (.cells D 47)).cell? ⟨(w.alloc (.cells C 47)).heap.size, i, none⟩ = some (.int .i64 ((padL q).getD i 0)) := rowC (heap_alloc_new _ _) (HCQ.out i hi)
      rw [World.size_alloc] at h1
      rw [hW]
      exact h1))
  obtain ⟨c, hc⟩ : ∃ c, c = cmpI (padL p) (padL q) := ⟨_, rfl⟩
  rw [← hc] at HC ⊢
  have hsl := fun (g : Nat) (w : World) => slice_all g w
  have HW := Lib.hid hW
  clear hc hcm hlp hlq h32 h32q hp hq hl hC hD HS1 hW
  go_enter Try.func68, Try.ntmps68
  go_wp2_with (first
    | ((with_reducible refine at_op (Op.box 47 (.tmp 0)) ?_); refine wpList_box_is rfl 47 (.tmp 0) rfl C rfl ?_)
    | ((with_reducible refine at_op (Op.box 47 (.tmp 1)) ?_); refine wpList_box_is rfl 47 (.tmp 1) rfl D rfl ?_))
  (try rw [← HW.out])
  go_quiet (first | ((with_reducible refine (HC.out _).mono ?_); exact fun _ _ h => ⟨h.1, _, h.2.symm⟩))
  go_wp2_with fail
  go_returns
  exact ⟨rfl, _, rfl⟩
end
section
open Go.RowKit

/-- The cells of sequences, side by side. -/
def seqCells (L : List (List Int)) : List Value := L.flatMap (fun s => (phC s).toList)
theorem seqCells_snoc (L : List (List Int)) (s : List Int) : seqCells (L ++ [s]) = seqCells L ++ (phC s).toList := by simp [seqCells]
theorem seqCells_len (L : List (List Int)) : (seqCells L).length = L.length * 33 := by
  induction L with
  | nil => rfl
  | cons s L ih => simp only [seqCells, List.flatMap_cons, List.length_append, Array.length_toList, phC_size, List.length_cons] at ih ⊢; omega
theorem seqCells_at (L : List (List Int)) (i j : Nat) (hi : i < L.length) (hj : j < 33) : (seqCells L)[i * 33 + j]? = (phC (L.getD i []))[j]? := by
  induction L generalizing i with
  | nil => simp at hi
  | cons s L ih =>
    have e : seqCells (s :: L) = (phC s).toList ++ seqCells L := by simp [seqCells]
    rw [e]
    cases i with
    | zero => rw [List.getElem?_append_left (by rw [Array.length_toList, phC_size]; omega)]; simp
    | succ i =>
      rw [List.getElem?_append_right (by rw [Array.length_toList, phC_size]; omega), Array.length_toList, phC_size, show (i + 1) * 33 + j - 33 = i * 33 + j by omega, ih i (by simpa using hi)]
      simp
/-- A list of sequences of the call's own. -/
def OwnQ (w : World) (B : Nat) (v : Value) (L : List (List Int)) : Prop := w.ownsRow B 47 33 v L.length (seqCells L)
/-- Block g holds these sequences. -/
def SeqsAt (w : World) (g : Nat) (L : List (List Int)) : Prop := g < w.heap.size ∧ ∀ i, i < L.length → w.rangeAt g (i * 33) (phC (L.getD i [])).toList
theorem SeqsAt.below {w w' : World} {g : Nat} {L : List (List Int)} (h : SeqsAt w g L) (hb : Below w.heap.size w w') : SeqsAt w' g L :=
  ⟨Nat.lt_of_lt_of_le h.1 hb.size, fun i hi j u hj => keepc hb (h.2 i hi j u hj)⟩
/-- Sequences of n phases. -/
abbrev SqN (n : Nat) := {s : List Int // isSeq s = true ∧ s.length = n}
def encQ {n : Nat} (x : SqN n) : List Value := (phC x.1).toList
theorem below_sort {α : Type} [Inhabited α] (enc : α → List Value) (k g off m : Nat) (w : World) (hg : g ≤ w.heap.size) (d : Array α) (os : Array Obj) : Below g w (sortWorldK enc k w g off m d os) := by
  refine ⟨rfl, rfl, rfl, ?_, fun i hi => ?_⟩
  · simp [sortWorldK, Sort.grow, Sort.putRowK, Sort.putRow, Sort.mapBlock, Sort.ahead]
  · simp only [sortWorldK, Sort.grow, Sort.putRowK, Sort.putRow, Sort.mapBlock, Sort.ahead]
    rw [Array.getElem?_append_left (by simp; omega), Array.getElem?_modify, if_neg (by omega)]
def lessQ {n : Nat} (x y : SqN n) : Int := cmpI x.1 y.1
theorem lessQ_rk {n : Nat} (x y : SqN n) : ltOf lessQ x y = decide (rk x.1 < rk y.1) := by
  unfold ltOf lessQ
  rw [decide_eq_decide]
  exact cmpI_rk _ _ (by rw [x.2.2, y.2.2]) (dig_seq x.2.1) (dig_seq y.2.1)
theorem lessQ_swo {n : Nat} : Sort.SWO (ltOf (lessQ (n := n))) where
  irrefl x := by rw [lessQ_rk]; simp
  trans x y z h1 h2 := by rw [lessQ_rk] at *; simp at *; omega
  ntrans x y z h1 h2 := by rw [lessQ_rk] at *; simp at *; omega
theorem cmpLaysQ {n : Nat} [Inhabited (SqN n)] (blk off size : Nat) (w : World) : CmpLays Try.prog 68 #[] encQ 33 (lessQ (n := n)) blk off size w := fun m os dk _ x y => by
  have h := byRank_any x.1 y.1 x.2.1 y.2.1 (by rw [x.2.2, y.2.2]) (sortWorldK encQ 33 w blk off m dk os)
  have e : (#[Value.agg (encQ x).toArray, Value.agg (encQ y).toArray] ++ #[] : Array Value) = #[.agg (phC x.1), .agg (phC y.1)] := by simp [encQ]
  rw [e]
  refine h.mono fun _ _ ⟨he, q, hq⟩ => ⟨he, q, #[.cells (phC x.1) 47, .cells (phC y.1) 47], ?_⟩
  rw [hq, Sort.alloc_eq_grow, Sort.alloc_eq_grow, Sort.grow_grow]
  rfl
theorem isAggPh (w : World) : (isAgg 47).run Try.prog w = .ok true w := by simp [isAgg, run_underlying Try.underlying47]
theorem sizePh (w : World) : (Go.sizeOf 47).run Try.prog w = .ok 33 w := by
  have h := infoPh
  cases hi : Try.prog.info? 47 with
  | none => rw [hi] at h; cases h
  | some it =>
    rw [hi] at h
    simp only [Option.map_some, Option.some.injEq] at h
    unfold Go.sizeOf typeInfo
    simp [Sem.run_bind, hi, h]
set_option maxHeartbeats 1000000 in
theorem sort_any (n : Nat) (hn : n ≤ 15) (ss R : List (List Int)) (hss : ∀ s ∈ ss, isSeq s = true ∧ s.length = n) (hnd : ss.Nodup) (hup : R.Pairwise (fun a b => rk a < rk b)) (hmem : ∀ s, s ∈ ss ↔ s ∈ R) (hsz : ss.length ≤ 1048576)
    (g cap B : Nat) (w : World) (hown : OwnQ w B (.slice (some ⟨g, 0, none⟩) ss.length cap) ss) :
    Calls Try.prog 67 #[.slice (some ⟨g, 0, none⟩) ss.length cap, .func (.func 68) #[] #[]] w
      (fun e w' => e = .returned (.tuple #[]) ∧ SeqsAt w' g R ∧ Below g w w' ∧ ss.length = R.length) := by
  haveI : Inhabited (SqN n) := ⟨⟨lowD 0 n, low_seq 0 n hn, lowD_length 0 n⟩⟩
  obtain ⟨dl, hdl⟩ : ∃ dl : List (SqN n), dl.map (·.1) = ss := ⟨ss.pmap (fun s h => ⟨s, h⟩) hss, by rw [List.map_pmap]; simp⟩
  have hlen : dl.length = ss.length := by rw [← hdl]; simp
  have hat : ∀ i (h : i < dl.length), (dl[i]'h).1 = ss.getD i [] := fun i h => by rw [← hdl]; simp [List.getD, h]
  have hlt : g < w.heap.size := (World.ownsRow.lt hown g rfl).2
  have hH : Sort.HoldsK encQ 33 w g 0 dl.toArray := by
    intro t ht
    rw [Sort.size_flatK] at ht
    have hts : t < dl.length * 33 := by simpa using ht
    have ht2 : t < ss.length * 33 := by rw [← hlen]; exact hts
    rw [Nat.zero_add, Sort.get_flatK _ _ _ _ ht]
    refine ⟨?_, World.ownsRow.frozenAt hown t⟩
    rw [World.ownsRow.cellAt hown t ht2]
    have hq : t / 33 < ss.length := Nat.div_lt_of_lt_mul (by omega)
    have hm : t % 33 < 33 := Nat.mod_lt _ (by omega)
    have e := seqCells_at ss (t / 33) (t % 33) hq hm
    rw [show t / 33 * 33 + t % 33 = t by omega] at e
    rw [e]
    have hq' : t / 33 < dl.length := by rw [hlen]; exact hq
    have e2 : (dl.toArray)[t / 33]! = dl[t / 33] := by simp [hq']
    rw [e2]
    unfold encQ
    rw [hat _ hq']
    have hp : t % 33 < (phC (ss.getD (t / 33) [])).size := by rw [phC_size]; exact hm
    have hp2 : t % 33 < (phC (ss[t / 33]?.getD [])).size := by rw [phC_size]; exact hm
    rw [Array.getElem?_eq_getElem hp]
    simp [hp2]
  have hcon := AnyQ.slices_SortFunc Go.Proofs.Try.sortPh 33 isAggPh sizePh (encQ (n := n)) (fun x => by unfold encQ; rw [Array.length_toList, phC_size]) (fun x v hv => by
      have h1 := phC_one x.1
      rw [Array.all_eq_true_iff_forall_mem] at h1
      exact h1 v (by unfold encQ at hv; simpa using hv)) lessQ lessQ_swo 68 #[] g 0 cap dl.toArray w (enters_of Try.func68 (by kernel_rfl) rfl) (cmpLaysQ _ _ _ _) hH hlt (by simp; omega)
  have hcon2 : Calls Try.prog 67 #[.slice (some ⟨g, 0, none⟩) dl.toArray.size cap, .func (.func 68) #[] #[]] w _ := hcon
  rw [show dl.toArray.size = ss.length by simpa using hlen] at hcon2
  refine hcon2.mono fun e w' ⟨he, d', m, os, hp, hs, hw⟩ => ?_
  obtain ⟨hp1, -, hp3⟩ := hp
  have hsz' : d'.size = ss.length := by rw [hp1]; simpa using hlen
  have hperm : d'.toList.Perm dl := by
    have h1 : d'.extract 0 ss.length = d' := by rw [← hsz']; simp
    have h2 : dl.toArray.extract 0 ss.length = dl.toArray := by rw [← hlen]; simp
    have h3 := hp3
    rw [h1, h2] at h3
    simpa using h3
  have hpm : (d'.toList.map (·.1)).Perm ss := by rw [← hdl]; exact hperm.map _
  have hup' : (d'.toList.map (·.1)).Pairwise (fun a b => rk a < rk b) := by
    rw [List.pairwise_iff_getElem]
    intro i j hi hj hij
    have hi' : i < d'.size := by simpa using hi
    have hj' : j < d'.size := by simpa using hj
    have h1 := hs i j (Nat.zero_le _) hij (by rw [← hsz']; exact hj')
    rw [lessQ_rk, decide_eq_false_iff_not] at h1
    simp only [List.getElem_map, Array.getElem_toList]
    rw [getElem!_pos d' j hj', getElem!_pos d' i hi'] at h1
    have h2 : rk d'[i].1 ≠ rk d'[j].1 := fun e => by
      have h3 := rk_inj d'[i].1 d'[j].1 (by rw [d'[i].2.2, d'[j].2.2]) (dig_seq d'[i].2.1) (dig_seq d'[j].2.1) e
      have hnd' : (d'.toList.map (·.1)).Nodup := hpm.symm.nodup hnd
      rw [List.nodup_iff_pairwise_ne, List.pairwise_iff_getElem] at hnd'
      have := hnd' i j hi hj hij
      simp only [List.getElem_map, Array.getElem_toList] at this
      exact this h3
    omega
  have hR : d'.toList.map (·.1) = R := rise_eq _ _ hup' hup (fun x => by rw [hpm.mem_iff]; exact hmem x)
  have hlR : ss.length = R.length := by rw [← hR]; simp [hsz']
  have hHd : Sort.HoldsK encQ 33 w' g 0 d' := by
    rw [hw]
    exact holdsK_sortWorldK encQ 33 w g 0 m dl.toArray d' os hlt hH (by rw [hp1])
  refine ⟨he, ⟨?_, fun i hi => ?_⟩, by rw [hw]; exact below_sort _ _ _ _ _ w (Nat.le_of_lt hlt) _ _, hlR⟩
  · rw [hw]; exact lt_sortWorldK encQ 33 w g 0 m d' os hlt
  · have hi' : i < d'.size := by rw [hsz', hlR]; exact hi
    intro j u hj
    have hj33 : j < 33 := by
      have := (List.getElem?_eq_some_iff.1 hj).1
      rwa [Array.length_toList, phC_size] at this
    have hc := (Sort.HoldsK.cell hHd hi' hj33).1
    rw [Nat.zero_add] at hc
    rw [hc, getElem!_pos d' i hi']
    have e : d'[i].1 = R.getD i [] := by rw [← hR]; simp [List.getD, hi']
    unfold encQ
    rw [e]
    rw [List.getElem!_eq_getElem?_getD, hj]
    rfl
end
end Go.Proofs.Ytcagiecgbjnefab
