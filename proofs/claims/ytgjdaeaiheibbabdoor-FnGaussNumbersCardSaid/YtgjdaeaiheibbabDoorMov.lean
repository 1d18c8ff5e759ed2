/- The program's turned: each phase of its own copy in turn. The program's climbed: each phase of its own copy in turn. The program's conjugate: each phase of its own copy in turn. The program's backwards: each phase of another sequence in turn. The program's TurnBy. The program's ClimbBy. The program's ConjugateOf. The program's BackwardsOf. InterleaveOf: what it returns. JoinOf: what it returns. ProductOf: what it returns. The program's joined: one sequence behind another, as values. The program's interleaved: two sequences in turn, as values. -/
import Derived.StillTailTactics
import Derived.Test.YtgjdaeaiheibbabDoorPhs
namespace Go.Proofs.YtgjdaeaiheibbabDoor
set_option maxRecDepth 100000
section
open Go.RowKit

end
section
open Go.RowKit

end
section
open Go.RowKit

end
section
open Go.RowKit

end
section
open Go.RowKit

def turnG (l : List Int) (k : Int) : List Int := gen l.length (fun (i : Nat) => (l.getD i 0 + k) % 4)
def turnOk (l : List Int) (k : Int) : Bool := isSeq l && decide (-1000 ≤ k ∧ k ≤ 1000)
def turnF (l : List Int) (k : Int) : List Int := if turnOk l k then turnG l k else []
theorem turnF_len (l : List Int) (k : Int) : (turnF l k).length ≤ 1048576 := by
  unfold turnF
  split
  · rename_i h
    have h1 : isSeq l = true := by unfold turnOk at h; first | exact h | (simp only [Bool.and_eq_true] at h; exact h.1)
    have := isSeq_len h1
    unfold turnG
    rw [gen_length]
    omega
  · simp
end
section
open Go.RowKit

def climbG (l : List Int) (k : Int) : List Int := gen l.length (fun (i : Nat) => (l.getD i 0 + k * i) % 4)
def climbOk (l : List Int) (k : Int) : Bool := isSeq l && decide (0 ≤ k ∧ k ≤ 3)
def climbF (l : List Int) (k : Int) : List Int := if climbOk l k then climbG l k else []
theorem climbF_len (l : List Int) (k : Int) : (climbF l k).length ≤ 1048576 := by
  unfold climbF
  split
  · rename_i h
    have h1 : isSeq l = true := by unfold climbOk at h; first | exact h | (simp only [Bool.and_eq_true] at h; exact h.1)
    have := isSeq_len h1
    unfold climbG
    rw [gen_length]
    omega
  · simp
end
section
open Go.RowKit

def barG (l : List Int) : List Int := gen l.length (fun (i : Nat) => (-(l.getD i 0)) % 4)
def barOk (l : List Int) : Bool := isSeq l
def barF (l : List Int) : List Int := if barOk l then barG l else []
theorem barF_len (l : List Int) : (barF l).length ≤ 1048576 := by
  unfold barF
  split
  · rename_i h
    have h1 : isSeq l = true := by unfold barOk at h; first | exact h | (simp only [Bool.and_eq_true] at h; exact h.1)
    have := isSeq_len h1
    unfold barG
    rw [gen_length]
    omega
  · simp
end
section
open Go.RowKit

def backG (l : List Int) : List Int := gen l.length (fun (i : Nat) => l.getD (l.length - 1 - i) 0)
def backOk (l : List Int) : Bool := isSeq l
def backF (l : List Int) : List Int := if backOk l then backG l else []
theorem backF_len (l : List Int) : (backF l).length ≤ 1048576 := by
  unfold backF
  split
  · rename_i h
    have h1 : isSeq l = true := by unfold backOk at h; first | exact h | (simp only [Bool.and_eq_true] at h; exact h.1)
    have := isSeq_len h1
    unfold backG
    rw [gen_length]
    omega
  · simp
end
section
open Go.RowKit

def weaveG (l m : List Int) : List Int := gen (2 * l.length) (fun (i : Nat) => if i % 2 = 0 then l.getD (i / 2) 0 else m.getD (i / 2) 0)
def weaveC (l m : List Int) : Bool := decide (l.length = m.length ∧ l.length + m.length ≤ 32)
def weaveOk (l m : List Int) : Bool := isSeq l && isSeq m && weaveC l m
def weaveF (l m : List Int) : List Int := if weaveOk l m then weaveG l m else []
theorem weaveG_len (l m : List Int) (hl : isSeq l = true) (hm : isSeq m = true) (h : weaveC l m = true) : (weaveG l m).length ≤ 32 := by
  have h1 := isSeq_len hl
  have h2 := isSeq_len hm
  have h3 := of_decide_eq_true h
  simp [weaveG, gen_length]
  omega
theorem weaveF_len (l m : List Int) : (weaveF l m).length ≤ 1048576 := by
  unfold weaveF
  split
  · rename_i h
    simp only [weaveOk, Bool.and_eq_true] at h
    have := weaveG_len l m h.1.1 h.1.2 h.2
    omega
  · simp
end
section
open Go.RowKit

def joinG (l m : List Int) : List Int := l ++ m
def joinC (l m : List Int) : Bool := decide (l.length + m.length ≤ 32)
def joinOk (l m : List Int) : Bool := isSeq l && isSeq m && joinC l m
def joinF (l m : List Int) : List Int := if joinOk l m then joinG l m else []
theorem joinG_len (l m : List Int) (hl : isSeq l = true) (hm : isSeq m = true) (h : joinC l m = true) : (joinG l m).length ≤ 32 := by
  have h1 := isSeq_len hl
  have h2 := isSeq_len hm
  have h3 := of_decide_eq_true h
  simp [joinG]
  omega
theorem joinF_len (l m : List Int) : (joinF l m).length ≤ 1048576 := by
  unfold joinF
  split
  · rename_i h
    simp only [joinOk, Bool.and_eq_true] at h
    have := joinG_len l m h.1.1 h.1.2 h.2
    omega
  · simp
end
section
open Go.RowKit

def prodG (l m : List Int) : List Int := gen l.length (fun (i : Nat) => (l.getD i 0 + m.getD i 0) % 4)
def prodC (l m : List Int) : Bool := decide (l.length = m.length)
def prodOk (l m : List Int) : Bool := isSeq l && isSeq m && prodC l m
def prodF (l m : List Int) : List Int := if prodOk l m then prodG l m else []
theorem prodG_len (l m : List Int) (hl : isSeq l = true) (hm : isSeq m = true) (h : prodC l m = true) : (prodG l m).length ≤ 32 := by
  have h1 := isSeq_len hl
  have h2 := isSeq_len hm
  have h3 := of_decide_eq_true h
  simp [prodG, gen_length]
  omega
theorem prodF_len (l m : List Int) : (prodF l m).length ≤ 1048576 := by
  unfold prodF
  split
  · rename_i h
    simp only [prodOk, Bool.and_eq_true] at h
    have := prodG_len l m h.1.1 h.1.2 h.2
    omega
  · simp
end
section
open Go.RowKit

/-- A copy into a row; the world behind it under a name, all other rows as they were. -/
theorem wpList_copy_keep {P : Program} {w : World} {ops : Array Oper} {rest : List Oper} {o : Oper} {a : Act} {Q : Exit → Act → World → Prop} (hgd : o.guard = none) (d s : Operand) (dT sT : TypeId)
    (ho : o.op = .call { callee := .builtin .copy, args := #[d, s], argTypes := #[dT, sT] }) (elem : TypeId) (hu : P.underlying dT = some (.slice elem)) (hsz : (P.info? elem).map (·.size) = some 1)
    (dp sp : Option Addr) (dLen dCap sLen sCap : Nat) (hd : a.eval d = .slice dp dLen dCap) (hs : a.eval s = .slice sp sLen sCap)
    (g off : Nat) (cur : Array Value) (t : TypeId) (hg : w.heap[g]? = some (.cells cur t (0, 0))) (cs : List Value) (hn : cs.length = Nat.min sLen dLen)
    (hpos : 0 < cs.length → dp = some ⟨g, off, none⟩ ∧ ∃ ad, sp = some ad ∧ ∀ j v, cs[j]? = some v → w.cell? (ad.add j) = some v)
    (hfit : off + cs.length ≤ cur.size) (h1 : ∀ v ∈ cs, v.oneCell' = true) (S : Nat) (w0 : World) (hb : Below S w0 w) (hS : S ≤ g)
    (h : ∀ w', w'.heap[g]? = some (.cells (splice cur.toList off cs).toArray t (0, 0)) → (∀ k, k ≠ g → w'.heap[k]? = w.heap[k]?) → w'.heap.size = w.heap.size → Below S w0 w' → wpList P ops Q rest (a.put o.dst (goInt cs.length)) w') :
    wpList P ops Q (o :: rest) a w := by
  by_cases h0 : cs.length = 0
  · obtain rfl : cs = [] := List.eq_nil_of_length_eq_zero h0
    refine wpList_copy_nothing hgd d s dT sT ho elem hu hsz dp sp dLen dCap sLen sCap hd hs (by simpa using hn.symm) ?_
    refine h w ?_ (fun _ _ => rfl) rfl hb
    rw [hg]
    simp [splice]
  · obtain ⟨rfl, ad, rfl, hsrc⟩ := hpos (by omega)
    refine wpList_copy_own hgd d s dT sT ho elem hu hsz g off dLen dCap ad sLen sCap hd hs cur t hg cs hn hsrc hfit h1 ?_
    exact h _ (setRow_heap w g _ _ t _ hg) (fun k hk => setRow_other w g k _ hk) (by simp) (below_setRow hb hS _)

theorem phA_setlen (A : List Int) (n x : Int) (h : A.length = 32) : (phA A n).setIfInBounds 32 (.int .i64 x) = phA A x := by
  apply Array.ext_getElem?
  intro j
  simp only [phA]
  rw [List.setIfInBounds_toArray]
  simp only [List.getElem?_toArray]
  rw [← List.map_set, List.set_append_right _ _ (by omega), h]
  rfl
theorem splice_join (l m : List Int) (c : Int) (h : l.length + m.length ≤ 32) : (splice (phA (padL l) c).toList l.length (m.map (Value.int .i64))).toArray = phA (padL (l ++ m)) c := by
  unfold splice phA padL
  simp only [List.length_map]
  rw [← List.map_take, ← List.map_drop, ← List.map_append, ← List.map_append]
  congr 2
  rw [List.append_assoc, List.take_left, List.drop_append, List.drop_of_length_le (by omega), List.nil_append, show l.length + m.length - l.length = m.length by omega]
  rw [List.drop_append_of_le_length (by simp; omega), List.drop_replicate, List.append_assoc, List.append_assoc, List.length_append]
  congr 4
  omega

end
section
open Go.RowKit

theorem weaveG_length (l m : List Int) : (weaveG l m).length = 2 * l.length := gen_length _ _

end
end Go.Proofs.YtgjdaeaiheibbabDoor
