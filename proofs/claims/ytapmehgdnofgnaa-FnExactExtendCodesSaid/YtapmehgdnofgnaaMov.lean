/- The program's turned: each phase of its own copy in turn. The program's climbed: each phase of its own copy in turn. The program's conjugate: each phase of its own copy in turn. The program's backwards: each phase of another sequence in turn. The program's TurnBy. The program's ClimbBy. The program's ConjugateOf. The program's BackwardsOf. InterleaveOf: what it returns. JoinOf: what it returns. ProductOf: what it returns. The program's joined: one sequence behind another, as values. The program's interleaved: two sequences in turn, as values. -/
import Derived.StillTailTactics
import Derived.Test.YtapmehgdnofgnaaPhs
namespace Go.Proofs.Ytapmehgdnofgnaa
set_option maxRecDepth 100000
section
open Go.RowKit

set_option maxRecDepth 100000 in
set_option maxHeartbeats 2000000 in
theorem turned_any (l : List Int) (k : Int) (hl : isSeq l = true) (hk1 : -1000 ≤ k) (hk2 : k ≤ 1000) (w : World) : Calls Try.prog 79 #[.agg (phA (padL l) l.length), .int .i64 k] w (Ret w (.agg (phA (padL (gen l.length (fun (i : Nat) => (l.getD i 0 + k) % 4))) l.length))) := by
  have h32 := isSeq_len hl
  have hall := isSeq_all hl
  have HALL := Lib.hid hall
  clear hall hl
  obtain ⟨N, hN⟩ : ∃ N, N = l.length := ⟨_, rfl⟩
  obtain ⟨G, hG⟩ : ∃ G : Nat → Int, G = fun (i : Nat) => (l.getD i 0 + k) % 4 := ⟨_, rfl⟩
  have hpl : (padL l).length = 32 := padL_length h32
  have hlen := phA_len (padL l) (l.length : Int) hpl
  obtain ⟨cs, hcs⟩ : ∃ cs, cs = phA (padL l) (l.length : Int) := ⟨_, rfl⟩
  have hsz : cs.size = 33 := by rw [hcs]; exact phA_size _ _ hpl
  rw [← hG, ← hcs]
  rw [← hcs] at hlen
  rw [← hN] at hlen h32 ⊢
  have HCS := Lib.hid hcs
  have HN := Lib.hid hN
  have HG := Lib.hid hG
  have HSZ := Lib.hid hsz
  have HPL := Lib.hid hpl
  clear hcs hN hG hsz hpl
  go_enter Try.func79, Try.ntmps79
  go_wp2_with (refine wpList_alloc_big rfl 61 rfl (phA z32 0) zeroPh ?_)
  go_loopw [8] (fun i wr => ∃ j : Nat, j ≤ N ∧ i = .int .i64 j ∧ wr.heap[w.heap.size]? = some (.cells (phA (padL (gen N (fun i => if i < j then G i else l.getD i 0))) N) 61 (0, 0)) ∧ wr.heap[w.heap.size + 1]? = some (.cells (phA z32 0) 61 (0, 0)) ∧ Below w.heap.size w wr) (fun i _ => N - (intOf i).toNat)
  case atStart =>
    refine ⟨0, Nat.zero_le _, rfl, ?_, ?_, by go_grown⟩
    · rw [heap_alloc2_old, HCS.out]
      have e : gen N (fun i => if i < 0 then G i else l.getD i 0) = l := by
        rw [HN.out]
        refine Eq.trans (gen_ext (fun i _ => ?_)) (gen_self l)
        rw [if_neg (Nat.not_lt_zero _)]
      rw [e, HN.out]
    · exact heap_alloc2_new w _ _
  case round =>
    obtain ⟨j, hj, rfl, hb0, hb1, hbel⟩ := hrel
    have hgl : (gen N (fun i => if i < j then G i else l.getD i 0)).length = N := gen_length _ _
    have hpl2 : (padL (gen N (fun i => if i < j then G i else l.getD i 0))).length = 32 := padL_length (by rw [hgl]; exact h32)
    have c32 : wr.cell? ⟨w.heap.size, 32, none⟩ = some (.int .i64 N) := by rw [cell_of_row wr _ _ _ _ _ hb0, phA_len _ _ hpl2]
    have HB := Lib.hid hbel
    by_cases hlt : j < N
    · have hx := allIn_getD HALL.out j (by rw [← HN.out]; exact hlt)
      have cj : wr.cell? ⟨w.heap.size, j, none⟩ = some (.int .i64 (l.getD j 0)) := by
        rw [cell_of_row wr _ _ _ _ _ hb0, phA_get _ _ j (by omega), pad_getD _ j (by rw [hgl]; exact hlt), gen_getD _ _ j hlt, if_neg (Nat.lt_irrefl _)]
      have fj : wr.frozen? ⟨w.heap.size, j, none⟩ = false := frozen_of_row wr _ _ _ _ hb0
      have hgj : G j = (l.getD j 0 + k) % 4 := by rw [HG.out]
      have hset := heap_setCell_same wr w.heap.size j _ _ (.int .i64 (G j)) hb0
      rw [phA_set _ _ j (by omega), pad_set _ j _ (by rw [hgl]; exact hlt), gen_set] at hset
      have hoth := heap_setCell_other wr ⟨w.heap.size, j, none⟩ (w.heap.size + 1) (.int .i64 (G j)) (by simp)
      have e2 : gen N (fun i => if i = j then G j else if i < j then G i else l.getD i 0) = gen N (fun i => if i < j + 1 then G i else l.getD i 0) := by
        apply gen_ext
        intro i _
        by_cases h1 : i = j
        · subst h1; rw [if_pos rfl, if_pos (Nat.lt_succ_self _)]
        · rw [if_neg h1]
          by_cases h2 : i < j
          · rw [if_pos h2, if_pos (Nat.lt_succ_of_lt h2)]
          · rw [if_neg h2, if_neg (by omega)]
      rw [e2] at hset
      rw [hb1] at hoth
      obtain ⟨x, hxd⟩ : ∃ x, x = l.getD j 0 := ⟨_, rfl⟩
      rw [← hxd] at hx cj hgj
      have HSET := Lib.hid hset
      have HOTH := Lib.hid hoth
      have HGJ := Lib.hid hgj
      obtain ⟨hx1, hx2⟩ := hx
      have h0 : (0 : Int) ≤ (j : Int) := by omega
      have h1 : (j : Int) < 32 := by omega
      have h1' : (j : Int) < (N : Int) := by omega
      clear hset hoth hgj hxd e2 hgl hpl2 hb0 hb1 hbel hlen
      go_wp2_with (go_at_call 95; refine (modulo_any _ 4 (by omega) (by omega) (by omega) (by omega) _).mono ?_; rintro e w' ⟨rfl, rfl⟩)
      go_roundw
      case rel =>
        rw [HGJ.out] at HSET HOTH
        exact ⟨j + 1, by omega, by go_num, HSET.out, HOTH.out, HB.out.setCell (Nat.le_refl _) _⟩
      case measure => simp [intOf]; omega
    · have he : gen N (fun i => if i < j then G i else l.getD i 0) = gen N G := gen_ext (fun i hi => by rw [if_pos (by omega)])
      rw [he] at hb0 hpl2
      have HB0 := Lib.hid hb0
      have HB1 := Lib.hid hb1
      have hpz : (phA (padL (gen N G)) (N : Int)).size = 33 := phA_size _ _ hpl2
      have HPZ := Lib.hid hpz
      have hinfo : (Try.prog.info? 61).map (·.size) = some (phA (padL (gen N G)) (N : Int)).size := by rw [hpz]; exact infoPh
      have HINFO := Lib.hid hinfo
      obtain ⟨C, hC⟩ : ∃ C, C = phA (padL (gen N G)) (N : Int) := ⟨_, rfl⟩
      have hC1 : C.all (·.oneCell') = true := by rw [hC]; exact phA_one _ _
      rw [← hC] at HB0 HPZ HINFO
      have HC1 := Lib.hid hC1
      have HC := Lib.hid hC
      clear he hb0 hb1 hpz hinfo hC hC1 hgl hpl2 hbel hlen
      go_wp2_with (first
        | (refine wpList_load_row rfl 61 (.tmp 2) rfl w.heap.size rfl 61 C (0, 0) _ HB0.out Try.underlying61 rfl HINFO.out ?_)
        | (refine wpList_store_big rfl 61 (.tmp 4) (.tmp 22) rfl (w.heap.size + 1) C rfl rfl 61 (phA z32 0) HB1.out 33 infoPh HPZ.out (phA_size _ _ z32_length) HC1.out w.heap.size w HB.out (by omega) ?_; intro w4 hg4 ho4 hz4 hb4))
      refine bodyPost_ret (v := .agg C) ?_ rfl ⟨?_, ‹_›⟩
      · exact results_cell_row Try.results79 _ _ (w.heap.size + 1) 61 C (0, 0) _ rfl (by assumption) Try.underlying61 rfl HINFO.out
      · rw [HC.out]
end
section
open Go.RowKit

end
section
open Go.RowKit

end
section
open Go.RowKit

end
section
open Go.RowKit

def turnG (l : List Int) (k : Int) : List Int := gen l.length (fun (i : Nat) => (l.getD i 0 + k) % 4)
def turnOk (l : List Int) (k : Int) : Bool := isSeq l && decide (-1000 ≤ k ∧ k ≤ 1000)
def turnF (l : List Int) (k : Int) : List Int := if turnOk l k then turnG l k else []
theorem turnF_len (l : List Int) (k : Int) : (turnF l k).length ≤ 1048576 := by
  unfold turnF
  split
  · rename_i h
    have h1 : isSeq l = true := by unfold turnOk at h; first | exact h | (simp only [Bool.and_eq_true] at h; exact h.1)
    have := isSeq_len h1
    unfold turnG
    rw [gen_length]
    omega
  · simp
end
section
open Go.RowKit

def climbG (l : List Int) (k : Int) : List Int := gen l.length (fun (i : Nat) => (l.getD i 0 + k * i) % 4)
def climbOk (l : List Int) (k : Int) : Bool := isSeq l && decide (0 ≤ k ∧ k ≤ 3)
def climbF (l : List Int) (k : Int) : List Int := if climbOk l k then climbG l k else []
theorem climbF_len (l : List Int) (k : Int) : (climbF l k).length ≤ 1048576 := by
  unfold climbF
  split
  · rename_i h
    have h1 : isSeq l = true := by unfold climbOk at h; first | exact h | (simp only [Bool.and_eq_true] at h; exact h.1)
    have := isSeq_len h1
    unfold climbG
    rw [gen_length]
    omega
  · simp
end
section
open Go.RowKit

def barG (l : List Int) : List Int := gen l.length (fun (i : Nat) => (-(l.getD i 0)) % 4)
def barOk (l : List Int) : Bool := isSeq l
def barF (l : List Int) : List Int := if barOk l then barG l else []
theorem barF_len (l : List Int) : (barF l).length ≤ 1048576 := by
  unfold barF
  split
  · rename_i h
    have h1 : isSeq l = true := by unfold barOk at h; first | exact h | (simp only [Bool.and_eq_true] at h; exact h.1)
    have := isSeq_len h1
    unfold barG
    rw [gen_length]
    omega
  · simp
end
section
open Go.RowKit

def backG (l : List Int) : List Int := gen l.length (fun (i : Nat) => l.getD (l.length - 1 - i) 0)
def backOk (l : List Int) : Bool := isSeq l
def backF (l : List Int) : List Int := if backOk l then backG l else []
theorem backF_len (l : List Int) : (backF l).length ≤ 1048576 := by
  unfold backF
  split
  · rename_i h
    have h1 : isSeq l = true := by unfold backOk at h; first | exact h | (simp only [Bool.and_eq_true] at h; exact h.1)
    have := isSeq_len h1
    unfold backG
    rw [gen_length]
    omega
  · simp
end
section
open Go.RowKit

def weaveG (l m : List Int) : List Int := gen (2 * l.length) (fun (i : Nat) => if i % 2 = 0 then l.getD (i / 2) 0 else m.getD (i / 2) 0)
def weaveC (l m : List Int) : Bool := decide (l.length = m.length ∧ l.length + m.length ≤ 32)
def weaveOk (l m : List Int) : Bool := isSeq l && isSeq m && weaveC l m
def weaveF (l m : List Int) : List Int := if weaveOk l m then weaveG l m else []
theorem weaveG_len (l m : List Int) (hl : isSeq l = true) (hm : isSeq m = true) (h : weaveC l m = true) : (weaveG l m).length ≤ 32 := by
  have h1 := isSeq_len hl
  have h2 := isSeq_len hm
  have h3 := of_decide_eq_true h
  simp [weaveG, gen_length]
  omega
theorem weaveF_len (l m : List Int) : (weaveF l m).length ≤ 1048576 := by
  unfold weaveF
  split
  · rename_i h
    simp only [weaveOk, Bool.and_eq_true] at h
    have := weaveG_len l m h.1.1 h.1.2 h.2
    omega
  · simp
end
section
open Go.RowKit

def joinG (l m : List Int) : List Int := l ++ m
def joinC (l m : List Int) : Bool := decide (l.length + m.length ≤ 32)
def joinOk (l m : List Int) : Bool := isSeq l && isSeq m && joinC l m
def joinF (l m : List Int) : List Int := if joinOk l m then joinG l m else []
theorem joinG_len (l m : List Int) (hl : isSeq l = true) (hm : isSeq m = true) (h : joinC l m = true) : (joinG l m).length ≤ 32 := by
  have h1 := isSeq_len hl
  have h2 := isSeq_len hm
  have h3 := of_decide_eq_true h
  simp [joinG]
  omega
theorem joinF_len (l m : List Int) : (joinF l m).length ≤ 1048576 := by
  unfold joinF
  split
  · rename_i h
    simp only [joinOk, Bool.and_eq_true] at h
    have := joinG_len l m h.1.1 h.1.2 h.2
    omega
  · simp
end
section
open Go.RowKit

def prodG (l m : List Int) : List Int := gen l.length (fun (i : Nat) => (l.getD i 0 + m.getD i 0) % 4)
def prodC (l m : List Int) : Bool := decide (l.length = m.length)
def prodOk (l m : List Int) : Bool := isSeq l && isSeq m && prodC l m
def prodF (l m : List Int) : List Int := if prodOk l m then prodG l m else []
theorem prodG_len (l m : List Int) (hl : isSeq l = true) (hm : isSeq m = true) (h : prodC l m = true) : (prodG l m).length ≤ 32 := by
  have h1 := isSeq_len hl
  have h2 := isSeq_len hm
  have h3 := of_decide_eq_true h
  simp [prodG, gen_length]
  omega
theorem prodF_len (l m : List Int) : (prodF l m).length ≤ 1048576 := by
  unfold prodF
  split
  · rename_i h
    simp only [prodOk, Bool.and_eq_true] at h
    have := prodG_len l m h.1.1 h.1.2 h.2
    omega
  · simp
end
section
open Go.RowKit

/-- A copy into a row; the world behind it under a name, all other rows as they were. -/
theorem wpList_copy_keep {P : Program} {w : World} {ops : Array Oper} {rest : List Oper} {o : Oper} {a : Act} {Q : Exit → Act → World → Prop} (hgd : o.guard = none) (d s : Operand) (dT sT : TypeId)
    (ho : o.op = .call { callee := .builtin .copy, args := #[d, s], argTypes := #[dT, sT] }) (elem : TypeId) (hu : P.underlying dT = some (.slice elem)) (hsz : (P.info? elem).map (·.size) = some 1)
    (dp sp : Option Addr) (dLen dCap sLen sCap : Nat) (hd : a.eval d = .slice dp dLen dCap) (hs : a.eval s = .slice sp sLen sCap)
    (g off : Nat) (cur : Array Value) (t : TypeId) (hg : w.heap[g]? = some (.cells cur t (0, 0))) (cs : List Value) (hn : cs.length = Nat.min sLen dLen)
    (hpos : 0 < cs.length → dp = some ⟨g, off, none⟩ ∧ ∃ ad, sp = some ad ∧ ∀ j v, cs[j]? = some v → w.cell? (ad.add j) = some v)
    (hfit : off + cs.length ≤ cur.size) (h1 : ∀ v ∈ cs, v.oneCell' = true) (S : Nat) (w0 : World) (hb : Below S w0 w) (hS : S ≤ g)
    (h : ∀ w', w'.heap[g]? = some (.cells (splice cur.toList off cs).toArray t (0, 0)) → (∀ k, k ≠ g → w'.heap[k]? = w.heap[k]?) → w'.heap.size = w.heap.size → Below S w0 w' → wpList P ops Q rest (a.put o.dst (goInt cs.length)) w') :
    wpList P ops Q (o :: rest) a w := by
  by_cases h0 : cs.length = 0
  · obtain rfl : cs = [] := List.eq_nil_of_length_eq_zero h0
    refine wpList_copy_nothing hgd d s dT sT ho elem hu hsz dp sp dLen dCap sLen sCap hd hs (by simpa using hn.symm) ?_
    refine h w ?_ (fun _ _ => rfl) rfl hb
    rw [hg]
    simp [splice]
  · obtain ⟨rfl, ad, rfl, hsrc⟩ := hpos (by omega)
    refine wpList_copy_own hgd d s dT sT ho elem hu hsz g off dLen dCap ad sLen sCap hd hs cur t hg cs hn hsrc hfit h1 ?_
    exact h _ (setRow_heap w g _ _ t _ hg) (fun k hk => setRow_other w g k _ hk) (by simp) (below_setRow hb hS _)

theorem slice_l (g n : Nat) (hn : n ≤ 32) (w : World) : (Instr.sliceAt 59 (.pointer (some ⟨g, 0, none⟩)) (some (.int .i64 n)) none none).run Try.prog w = .ok (.slice (some (if 32 = n then ⟨g, 0, none⟩ else (⟨g, 0, none⟩ : Addr).add n)) (32 - n) (32 - n)) w := by
  have hu : Try.prog.underlying 59 = some (.array (Try.prog.arrayLen 59) (Try.prog.elem 59)) := by rw [lenArr, elemArr]; exact Try.underlying59
  rw [run_sliceAt_array_l w _ _ hu .i64 n (by omega) (by rw [lenArr]; omega), lenArr, elemArr]
  simp [go_sem]
theorem phA_setlen (A : List Int) (n x : Int) (h : A.length = 32) : (phA A n).setIfInBounds 32 (.int .i64 x) = phA A x := by
  apply Array.ext_getElem?
  intro j
  simp only [phA]
  rw [List.setIfInBounds_toArray]
  simp only [List.getElem?_toArray]
  rw [← List.map_set, List.set_append_right _ _ (by omega), h]
  rfl
theorem splice_join (l m : List Int) (c : Int) (h : l.length + m.length ≤ 32) : (splice (phA (padL l) c).toList l.length (m.map (Value.int .i64))).toArray = phA (padL (l ++ m)) c := by
  unfold splice phA padL
  simp only [List.length_map]
  rw [← List.map_take, ← List.map_drop, ← List.map_append, ← List.map_append]
  congr 2
  rw [List.append_assoc, List.take_left, List.drop_append, List.drop_of_length_le (by omega), List.nil_append, show l.length + m.length - l.length = m.length by omega]
  rw [List.drop_append_of_le_length (by simp; omega), List.drop_replicate, List.append_assoc, List.append_assoc, List.length_append]
  congr 4
  omega

set_option maxRecDepth 100000 in
set_option maxHeartbeats 4000000 in
theorem joined_any (l m : List Int) (hc : l.length + m.length ≤ 32) (w : World) : Calls Try.prog 78 #[.agg (phA (padL l) l.length), .agg (phA (padL m) m.length)] w (Ret w (.tuple #[.agg (phA (padL (joinG l m)) (joinG l m).length), .bool true])) := by
  have hjl : ((joinG l m).length : Int) = (l.length : Int) + (m.length : Int) := by simp [joinG]
  rw [hjl]
  have hpl : (padL l).length = 32 := padL_length (by omega)
  have hpm : (padL m).length = 32 := padL_length (by omega)
  have hpj : (padL (joinG l m)).length = 32 := padL_length (by simp [joinG]; omega)
  have hlen := phA_len (padL l) (l.length : Int) hpl
  have hlenm := phA_len (padL m) (m.length : Int) hpm
  have hsrc : ∀ (j : Nat) (v : Value), (m.map (Value.int .i64))[j]? = some v → (phA (padL m) (m.length : Int))[j]? = some v := by
    intro j v hj
    have hjl : j < m.length := by have := (List.getElem?_eq_some_iff.1 hj).1; simpa using this
    rw [phA_get _ _ j (by omega), pad_getD m j hjl, ← hj]
    simp [List.getD, hjl]
  have hsplice := splice_join l m (l.length : Int) hc
  have hszc : (phA (padL l) (l.length : Int)).size = 33 := phA_size _ _ hpl
  obtain ⟨cs, hcs⟩ : ∃ cs, cs = phA (padL l) (l.length : Int) := ⟨_, rfl⟩
  obtain ⟨ds, hds⟩ : ∃ ds, ds = phA (padL m) (m.length : Int) := ⟨_, rfl⟩
  rw [← hcs, ← hds]
  rw [← hcs] at hlen hsplice hszc
  rw [← hds] at hlenm hsrc
  obtain ⟨J, hJ⟩ : ∃ J, J = joinG l m := ⟨_, rfl⟩
  rw [show l ++ m = J from hJ.symm] at hsplice
  rw [← hJ] at hpj ⊢
  obtain ⟨L, hL⟩ : ∃ L, L = m.map (Value.int .i64) := ⟨_, rfl⟩
  have hLn : L.length = m.length := by rw [hL, List.length_map]
  have hL1 : ∀ v ∈ L, v.oneCell' = true := by
    intro v hv
    rw [hL] at hv
    simp only [List.mem_map] at hv
    obtain ⟨x, _, rfl⟩ := hv
    rfl
  rw [← hL] at hsrc hsplice
  obtain ⟨n, hn⟩ : ∃ n, n = l.length := ⟨_, rfl⟩
  obtain ⟨k, hk⟩ : ∃ k, k = m.length := ⟨_, rfl⟩
  rw [← hn] at hlen hsplice hc ⊢
  rw [← hk] at hlenm hc hLn ⊢
  obtain ⟨AD, hAD⟩ : ∃ AD, AD = (if 32 = n then ⟨w.heap.size, 0, none⟩ else (⟨w.heap.size, 0, none⟩ : Addr).add n) := ⟨_, rfl⟩
  have hsl := slice_l w.heap.size n (by omega)
  rw [← hAD] at hsl
  have hsl2 := slice_h (w.heap.size + 1) k (by omega)
  have hAD2 : 0 < k → some AD = some ⟨w.heap.size, n, none⟩ := fun h => by rw [hAD, if_neg (by omega), Addr.add_lit, Nat.zero_add]
  have hi1 : (Try.prog.info? 3).map (·.size) = some 1 := by kernel_rfl
  have HI1 := Lib.hid hi1
  have HSRC := Lib.hid hsrc
  have HSPL := Lib.hid hsplice
  have HSZC := Lib.hid hszc
  have HPJ := Lib.hid hpj
  have HLN := Lib.hid hLn
  have HL1 := Lib.hid hL1
  have HAD2 := Lib.hid hAD2
  have HLEN := Lib.hid hlen
  have HLENM := Lib.hid hlenm
  have hnk : (n : Int) + (k : Int) ≤ 32 := by omega
  clear hpl hpm hjl hcs hds hJ hL hn hk hi1 hsrc hsplice hszc hpj hLn hL1 hAD hAD2
  go_enter Try.func78, Try.ntmps78
  go_wp2_with (refine wpList_alloc_big rfl 61 rfl (phA z32 0) zeroPh ?_; simp only [World.size_alloc, Act.put, List.setIfInBounds_toArray, List.set_cons_zero, List.set_cons_succ])
  obtain ⟨W, hW⟩ : ∃ W, W = ((w.alloc (.cells cs 61)).alloc (.cells ds 61)).alloc (.cells (phA z32 0) 61) := ⟨_, rfl⟩
  have hs0 : W.heap[w.heap.size]? = some (.cells cs 61 (0, 0)) := by rw [hW, heap_alloc_old _ _ (by simp; omega)]; exact heap_alloc2_old w _ _
  have hs1 : W.heap[w.heap.size + 1]? = some (.cells ds 61 (0, 0)) := by rw [hW, heap_alloc_old _ _ (by simp)]; exact heap_alloc2_new w _ _
  have hs2 : W.heap[w.heap.size + 1 + 1]? = some (.cells (phA z32 0) 61 (0, 0)) := by
    rw [hW]
    have := heap_alloc_new ((w.alloc (.cells cs 61)).alloc (.cells ds 61)) (.cells (phA z32 0) 61)
    rw [World.size_alloc, World.size_alloc] at this
    exact this
  have hBW : Below w.heap.size w W := by rw [hW]; go_grown
  have cn : W.cell? ⟨w.heap.size, 32, none⟩ = some (.int .i64 n) := by rw [cell_of_row W _ _ _ _ _ hs0]; exact HLEN.out
  have ck : W.cell? ⟨w.heap.size + 1, 32, none⟩ = some (.int .i64 k) := by rw [cell_of_row W _ _ _ _ _ hs1]; exact HLENM.out
  rw [← hW]
  have HS0 := Lib.hid hs0
  have HS1 := Lib.hid hs1
  have HS2 := Lib.hid hs2
  clear hW hs0 hs1 hs2 hlen hlenm
  go_wp2_with fail
  go_still_tail 8, (by kernel_rfl)
  change wpList _ _ _ _ _ W.drew
  refine wpList_copy_keep rfl (.tmp 16) (.tmp 20) 31 31 rfl 3 Try.underlying31 HI1.out _ _ _ _ _ _ rfl rfl w.heap.size n cs 61 HS0.out L (by rw [HLN.out]; exact (Nat.min_eq_left (by omega)).symm) (fun h => ⟨HAD2.out (by rw [← HLN.out]; exact h), _, rfl, fun j v hj => by rw [Addr.add_lit, Nat.zero_add]; exact (cell_of_row W.drew (w.heap.size + 1) j ds 61 (0, 0) HS1.out).trans (HSRC.out j v hj)⟩) (by rw [HLN.out, HSZC.out]; omega) HL1.out w.heap.size w hBW.drew (Nat.le_refl _) ?_
  intro w3 hg3 ho3 hz3 hb3
  rw [HSPL.out] at hg3
  have c3 : w3.cell? ⟨w.heap.size, 32, none⟩ = some (.int .i64 n) := by rw [cell_of_row w3 _ _ _ _ _ hg3]; exact phA_len _ _ HPJ.out
  have k3 : w3.cell? ⟨w.heap.size + 1, 32, none⟩ = some (.int .i64 k) := by rw [cell_of_row w3 _ _ _ _ _ ((ho3 (w.heap.size + 1) (by omega)).trans HS1.out)]; exact HLENM.out
  have f3 : w3.frozen? ⟨w.heap.size, 32, none⟩ = false := frozen_of_row w3 _ _ _ _ hg3
  have hset := heap_setCell_same w3 w.heap.size 32 _ _ (.int .i64 ((n : Int) + k)) hg3
  rw [phA_setlen _ _ _ HPJ.out] at hset
  have hoth := (heap_setCell_other w3 ⟨w.heap.size, 32, none⟩ (w.heap.size + 1 + 1) (.int .i64 ((n : Int) + k)) (by simp; omega)).trans ((ho3 (w.heap.size + 1 + 1) (by omega)).trans HS2.out)
  have hB4 := hb3.setCell (p := ⟨w.heap.size, 32, none⟩) (Nat.le_refl _) (.int .i64 ((n : Int) + k))
  have hpz : (phA (padL J) ((n : Int) + k)).size = 33 := phA_size _ _ HPJ.out
  have hinfo : (Try.prog.info? 61).map (·.size) = some (phA (padL J) ((n : Int) + k)).size := by rw [hpz]; exact infoPh
  obtain ⟨C, hC⟩ : ∃ C, C = phA (padL J) ((n : Int) + k) := ⟨_, rfl⟩
  have hC1 : C.all (·.oneCell') = true := by rw [hC]; exact phA_one _ _
  rw [← hC] at hset hpz hinfo
  have HSET := Lib.hid hset
  have HOTH := Lib.hid hoth
  have HB4 := Lib.hid hB4
  have HPZ := Lib.hid hpz
  have HINFO := Lib.hid hinfo
  have HC1 := Lib.hid hC1
  have HC := Lib.hid hC
  have h0n : (0 : Int) ≤ (n : Int) := by omega
  have h0k : (0 : Int) ≤ (k : Int) := by omega
  clear hg3 ho3 hz3 hset hoth hB4 hpz hinfo hC hC1 cn ck
  go_wp2_with (first
    | (refine wpList_load_row rfl 61 (.tmp 2) rfl w.heap.size rfl 61 C (0, 0) _ HSET.out Try.underlying61 rfl HINFO.out ?_)
    | (refine wpList_store_big rfl 61 (.tmp 4) (.tmp 28) rfl (w.heap.size + 1 + 1) C rfl rfl 61 (phA z32 0) HOTH.out 33 infoPh HPZ.out (phA_size _ _ z32_length) HC1.out w.heap.size w HB4.out (by omega) ?_; intro w4 hg4 ho4 hz4 hb4))
  refine bodyPost_ret (v := .tuple #[.agg C, .bool true]) ?_ rfl ⟨?_, ‹_›⟩
  · rw [results_cell_tmp (p := 4) (u := 5) (ty := 61) Try.results78]
    simp [asAddr, run_loadVar_row _ (w.heap.size + 1 + 1) 61 61 _ (0, 0) _ (by assumption) Try.underlying61 rfl HINFO.out, Result.andThen]
  · rw [HC.out]

set_option maxRecDepth 100000 in
set_option maxHeartbeats 2000000 in
theorem joined_not (l m : List Int) (hl : isSeq l = true) (hm : isSeq m = true) (hc : ¬ l.length + m.length ≤ 32) (w : World) : Calls Try.prog 78 #[.agg (phA (padL l) l.length), .agg (phA (padL m) m.length)] w (Ret w (.tuple #[.agg (phA z32 0), .bool false])) := by
  have h32 := isSeq_len hl
  have h32m := isSeq_len hm
  clear hl hm
  have hpl : (padL l).length = 32 := padL_length h32
  have hpm : (padL m).length = 32 := padL_length h32m
  have hlen := phA_len (padL l) (l.length : Int) hpl
  have hlenm := phA_len (padL m) (m.length : Int) hpm
  obtain ⟨cs, hcs⟩ : ∃ cs, cs = phA (padL l) (l.length : Int) := ⟨_, rfl⟩
  obtain ⟨ds, hds⟩ : ∃ ds, ds = phA (padL m) (m.length : Int) := ⟨_, rfl⟩
  rw [← hcs, ← hds]
  rw [← hcs] at hlen
  rw [← hds] at hlenm
  have hinfo : (Try.prog.info? 61).map (·.size) = some (phA z32 0).size := by rw [phA_size _ _ z32_length]; exact infoPh
  have HINFO := Lib.hid hinfo
  have h33 : (32 : Int) < (l.length : Int) + (m.length : Int) := by omega
  clear hcs hds hpl hpm hc hinfo
  go_enter Try.func78, Try.ntmps78
  go_wp2_with (first
    | (refine wpList_alloc_big rfl 61 rfl (phA z32 0) zeroPh ?_; simp only [World.size_alloc, Act.put, List.setIfInBounds_toArray, List.set_cons_zero, List.set_cons_succ])
    | (refine wpList_store_big rfl 61 (.tmp 4) (.tmp 12) rfl (w.heap.size + 1 + 1) (phA z32 0) rfl rfl 61 (phA z32 0) (by have := heap_alloc_new ((w.alloc (.cells cs 61)).alloc (.cells ds 61)) (.cells (phA z32 0) 61); rw [World.size_alloc, World.size_alloc] at this; exact this) 33 infoPh (phA_size _ _ z32_length) (phA_size _ _ z32_length) (phA_one _ _) w.heap.size w (by go_grown) (by omega) ?_; intro w4 hg4 ho4 hz4 hb4))
  refine bodyPost_ret (v := .tuple #[.agg (phA z32 0), .bool false]) ?_ rfl ⟨rfl, ‹_›⟩
  rw [results_cell_tmp (p := 4) (u := 5) (ty := 61) Try.results78]
  simp [asAddr, run_loadVar_row _ (w.heap.size + 1 + 1) 61 61 _ (0, 0) _ (by assumption) Try.underlying61 rfl HINFO.out, Result.andThen]
end
section
open Go.RowKit

theorem weaveG_length (l m : List Int) : (weaveG l m).length = 2 * l.length := gen_length _ _

end
end Go.Proofs.Ytapmehgdnofgnaa
