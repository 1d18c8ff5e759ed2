/- A list of sequences sorted by rank: slices.SortFunc with byRank. -/
import Derived.Test.YtcagiecgbjnefabIClQ
import Derived.Test.YtcagiecgbjnefabSortLay
namespace Go.Proofs.Ytcagiecgbjnefab
set_option maxRecDepth 100000
open Go.RowKit

/-- The cells of sequences, side by side. -/
def seqCells (L : List (List Int)) : List Value := L.flatMap (fun s => (phC s).toList)
theorem seqCells_snoc (L : List (List Int)) (s : List Int) : seqCells (L ++ [s]) = seqCells L ++ (phC s).toList := by simp [seqCells]
theorem seqCells_len (L : List (List Int)) : (seqCells L).length = L.length * 33 := by
  induction L with
  | nil => rfl
  | cons s L ih => simp only [seqCells, List.flatMap_cons, List.length_append, Array.length_toList, phC_size, List.length_cons] at ih ⊢; omega
theorem seqCells_at (L : List (List Int)) (i j : Nat) (hi : i < L.length) (hj : j < 33) : (seqCells L)[i * 33 + j]? = (phC (L.getD i []))[j]? := by
  induction L generalizing i with
  | nil => simp at hi
  | cons s L ih =>
    have e : seqCells (s :: L) = (phC s).toList ++ seqCells L := by simp [seqCells]
    rw [e]
    cases i with
    | zero => rw [List.getElem?_append_left (by rw [Array.length_toList, phC_size]; omega)]; simp
    | succ i =>
      rw [List.getElem?_append_right (by rw [Array.length_toList, phC_size]; omega), Array.length_toList, phC_size, show (i + 1) * 33 + j - 33 = i * 33 + j by omega, ih i (by simpa using hi)]
      simp
/-- A list of sequences of the call's own. -/
def OwnQ (w : World) (B : Nat) (v : Value) (L : List (List Int)) : Prop := w.ownsRow B 47 33 v L.length (seqCells L)
/-- Block g holds these sequences. -/
def SeqsAt (w : World) (g : Nat) (L : List (List Int)) : Prop := g < w.heap.size ∧ ∀ i, i < L.length → w.rangeAt g (i * 33) (phC (L.getD i [])).toList
theorem SeqsAt.below {w w' : World} {g : Nat} {L : List (List Int)} (h : SeqsAt w g L) (hb : Below w.heap.size w w') : SeqsAt w' g L :=
  ⟨Nat.lt_of_lt_of_le h.1 hb.size, fun i hi j u hj => keepc hb (h.2 i hi j u hj)⟩
/-- Sequences of n phases. -/
abbrev SqN (n : Nat) := {s : List Int // isSeq s = true ∧ s.length = n}
def encQ {n : Nat} (x : SqN n) : List Value := (phC x.1).toList
theorem below_sort {α : Type} [Inhabited α] (enc : α → List Value) (k g off m : Nat) (w : World) (hg : g ≤ w.heap.size) (d : Array α) (os : Array Obj) : Below g w (sortWorldK enc k w g off m d os) := by
  refine ⟨rfl, rfl, rfl, ?_, fun i hi => ?_⟩
  · simp [sortWorldK, Sort.grow, Sort.putRowK, Sort.putRow, Sort.mapBlock, Sort.ahead]
  · simp only [sortWorldK, Sort.grow, Sort.putRowK, Sort.putRow, Sort.mapBlock, Sort.ahead]
    rw [Array.getElem?_append_left (by simp; omega), Array.getElem?_modify, if_neg (by omega)]
def lessQ {n : Nat} (x y : SqN n) : Int := cmpI x.1 y.1
theorem lessQ_rk {n : Nat} (x y : SqN n) : ltOf lessQ x y = decide (rk x.1 < rk y.1) := by
  unfold ltOf lessQ
  rw [decide_eq_decide]
  exact cmpI_rk _ _ (by rw [x.2.2, y.2.2]) (dig_seq x.2.1) (dig_seq y.2.1)
theorem lessQ_swo {n : Nat} : Sort.SWO (ltOf (lessQ (n := n))) where
  irrefl x := by rw [lessQ_rk]; simp
  trans x y z h1 h2 := by rw [lessQ_rk] at *; simp at *; omega
  ntrans x y z h1 h2 := by rw [lessQ_rk] at *; simp at *; omega
theorem cmpLaysQ {n : Nat} [Inhabited (SqN n)] (blk off size : Nat) (w : World) : CmpLays Try.prog 68 #[] encQ 33 (lessQ (n := n)) blk off size w := fun m os dk _ x y => by
  have h := byRank_any x.1 y.1 x.2.1 y.2.1 (by rw [x.2.2, y.2.2]) (sortWorldK encQ 33 w blk off m dk os)
  have e : (#[Value.agg (encQ x).toArray, Value.agg (encQ y).toArray] ++ #[] : Array Value) = #[.agg (phC x.1), .agg (phC y.1)] := by simp [encQ]
  rw [e]
  refine h.mono fun _ _ ⟨he, q, hq⟩ => ⟨he, q, #[.cells (phC x.1) 47, .cells (phC y.1) 47], ?_⟩
  rw [hq, Sort.alloc_eq_grow, Sort.alloc_eq_grow, Sort.grow_grow]
  rfl
theorem isAggPh (w : World) : (isAgg 47).run Try.prog w = .ok true w := by simp [isAgg, run_underlying Try.underlying47]
theorem sizePh (w : World) : (Go.sizeOf 47).run Try.prog w = .ok 33 w := by
  have h := infoPh
  cases hi : Try.prog.info? 47 with
  | none => rw [hi] at h; cases h
  | some it =>
    rw [hi] at h
    simp only [Option.map_some, Option.some.injEq] at h
    unfold Go.sizeOf typeInfo
    simp [Sem.run_bind, hi, h]
set_option maxHeartbeats 1000000 in
theorem sort_any (n : Nat) (hn : n ≤ 15) (ss R : List (List Int)) (hss : ∀ s ∈ ss, isSeq s = true ∧ s.length = n) (hnd : ss.Nodup) (hup : R.Pairwise (fun a b => rk a < rk b)) (hmem : ∀ s, s ∈ ss ↔ s ∈ R) (hsz : ss.length ≤ 1048576)
    (g cap B : Nat) (w : World) (hown : OwnQ w B (.slice (some ⟨g, 0, none⟩) ss.length cap) ss) :
    Calls Try.prog 67 #[.slice (some ⟨g, 0, none⟩) ss.length cap, .func (.func 68) #[] #[]] w
      (fun e w' => e = .returned (.tuple #[]) ∧ SeqsAt w' g R ∧ Below g w w' ∧ ss.length = R.length) := by
  haveI : Inhabited (SqN n) := ⟨⟨lowD 0 n, low_seq 0 n hn, lowD_length 0 n⟩⟩
  obtain ⟨dl, hdl⟩ : ∃ dl : List (SqN n), dl.map (·.1) = ss := ⟨ss.pmap (fun s h => ⟨s, h⟩) hss, by rw [List.map_pmap]; simp⟩
  have hlen : dl.length = ss.length := by rw [← hdl]; simp
  have hat : ∀ i (h : i < dl.length), (dl[i]'h).1 = ss.getD i [] := fun i h => by rw [← hdl]; simp [List.getD, h]
  have hlt : g < w.heap.size := (World.ownsRow.lt hown g rfl).2
  have hH : Sort.HoldsK encQ 33 w g 0 dl.toArray := by
    intro t ht
    rw [Sort.size_flatK] at ht
    have hts : t < dl.length * 33 := by simpa using ht
    have ht2 : t < ss.length * 33 := by rw [← hlen]; exact hts
    rw [Nat.zero_add, Sort.get_flatK _ _ _ _ ht]
    refine ⟨?_, World.ownsRow.frozenAt hown t⟩
    rw [World.ownsRow.cellAt hown t ht2]
    have hq : t / 33 < ss.length := Nat.div_lt_of_lt_mul (by omega)
    have hm : t % 33 < 33 := Nat.mod_lt _ (by omega)
    have e := seqCells_at ss (t / 33) (t % 33) hq hm
    rw [show t / 33 * 33 + t % 33 = t by omega] at e
    rw [e]
    have hq' : t / 33 < dl.length := by rw [hlen]; exact hq
    have e2 : (dl.toArray)[t / 33]! = dl[t / 33] := by simp [hq']
    rw [e2]
    unfold encQ
    rw [hat _ hq']
    have hp : t % 33 < (phC (ss.getD (t / 33) [])).size := by rw [phC_size]; exact hm
    have hp2 : t % 33 < (phC (ss[t / 33]?.getD [])).size := by rw [phC_size]; exact hm
    rw [Array.getElem?_eq_getElem hp]
    simp [hp2]
  have hcon := AnyQ.slices_SortFunc Go.Proofs.Try.sortPh 33 isAggPh sizePh (encQ (n := n)) (fun x => by unfold encQ; rw [Array.length_toList, phC_size]) (fun x v hv => by
      have h1 := phC_one x.1
      rw [Array.all_eq_true_iff_forall_mem] at h1
      exact h1 v (by unfold encQ at hv; simpa using hv)) lessQ lessQ_swo 68 #[] g 0 cap dl.toArray w (enters_of Try.func68 (by kernel_rfl) rfl) (cmpLaysQ _ _ _ _) hH hlt (by simp; omega)
  have hcon2 : Calls Try.prog 67 #[.slice (some ⟨g, 0, none⟩) dl.toArray.size cap, .func (.func 68) #[] #[]] w _ := hcon
  rw [show dl.toArray.size = ss.length by simpa using hlen] at hcon2
  refine hcon2.mono fun e w' ⟨he, d', m, os, hp, hs, hw⟩ => ?_
  obtain ⟨hp1, -, hp3⟩ := hp
  have hsz' : d'.size = ss.length := by rw [hp1]; simpa using hlen
  have hperm : d'.toList.Perm dl := by
    have h1 : d'.extract 0 ss.length = d' := by rw [← hsz']; simp
    have h2 : dl.toArray.extract 0 ss.length = dl.toArray := by rw [← hlen]; simp
    have h3 := hp3
    rw [h1, h2] at h3
    simpa using h3
  have hpm : (d'.toList.map (·.1)).Perm ss := by rw [← hdl]; exact hperm.map _
  have hup' : (d'.toList.map (·.1)).Pairwise (fun a b => rk a < rk b) := by
    rw [List.pairwise_iff_getElem]
    intro i j hi hj hij
    have hi' : i < d'.size := by simpa using hi
    have hj' : j < d'.size := by simpa using hj
    have h1 := hs i j (Nat.zero_le _) hij (by rw [← hsz']; exact hj')
    rw [lessQ_rk, decide_eq_false_iff_not] at h1
    simp only [List.getElem_map, Array.getElem_toList]
    rw [getElem!_pos d' j hj', getElem!_pos d' i hi'] at h1
    have h2 : rk d'[i].1 ≠ rk d'[j].1 := fun e => by
      have h3 := rk_inj d'[i].1 d'[j].1 (by rw [d'[i].2.2, d'[j].2.2]) (dig_seq d'[i].2.1) (dig_seq d'[j].2.1) e
      have hnd' : (d'.toList.map (·.1)).Nodup := hpm.symm.nodup hnd
      rw [List.nodup_iff_pairwise_ne, List.pairwise_iff_getElem] at hnd'
      have := hnd' i j hi hj hij
      simp only [List.getElem_map, Array.getElem_toList] at this
      exact this h3
    omega
  have hR : d'.toList.map (·.1) = R := rise_eq _ _ hup' hup (fun x => by rw [hpm.mem_iff]; exact hmem x)
  have hlR : ss.length = R.length := by rw [← hR]; simp [hsz']
  have hHd : Sort.HoldsK encQ 33 w' g 0 d' := by
    rw [hw]
    exact holdsK_sortWorldK encQ 33 w g 0 m dl.toArray d' os hlt hH (by rw [hp1])
  refine ⟨he, ⟨?_, fun i hi => ?_⟩, by rw [hw]; exact below_sort _ _ _ _ _ w (Nat.le_of_lt hlt) _ _, hlR⟩
  · rw [hw]; exact lt_sortWorldK encQ 33 w g 0 m d' os hlt
  · have hi' : i < d'.size := by rw [hsz', hlR]; exact hi
    intro j u hj
    have hj33 : j < 33 := by
      have := (List.getElem?_eq_some_iff.1 hj).1
      rwa [Array.length_toList, phC_size] at this
    have hc := (Sort.HoldsK.cell hHd hi' hj33).1
    rw [Nat.zero_add] at hc
    rw [hc, getElem!_pos d' i hi']
    have e : d'[i].1 = R.getD i [] := by rw [← hR]; simp [List.getD, hi']
    unfold encQ
    rw [e]
    rw [List.getElem!_eq_getElem?_getD, hj]
    rfl
end Go.Proofs.Ytcagiecgbjnefab
