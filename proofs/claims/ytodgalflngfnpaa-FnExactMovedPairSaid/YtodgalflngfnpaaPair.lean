/- The program's pairOf: two sequences of one length, as values. -/
import Derived.Test.YtodgalflngfnpaaPhs
namespace Go.Proofs.Ytodgalflngfnpaa
set_option maxRecDepth 100000
open Go.RowKit

section
variable {P : Program}
theorem yields_row {ops : Array Oper} {S : World → Prop} {o : Oper} {a : Act} (hw : Region.wanted o (yielded ops a.tmps) = true) (ty : TypeId) (x : Operand) (ho : o.op = .load ty x)
    (g : Nat) (hx : a.eval x = .pointer (some ⟨g, 0, none⟩)) (t : TypeId) (cs : Array Value) (fr : Nat × Nat) (d : TypeDesc) (hg : ∀ w, S w → w.heap[g]? = some (.cells cs t fr))
    (hu : P.underlying ty = some d) (hd : (match d with | .struct _ | .array _ _ => true | _ => false) = true) (hi : (P.info? ty).map (·.size) = some cs.size) : YieldsIf P ops S o (.agg cs) a :=
  .inl ⟨hw, fun w hS => by
    unfold execOp
    simp only [ho, hx, Instr.loadAt, Instr.sureAddr, Sem.run_bind, Sem.run_pure, Result.andThen_ok, run_loadVar_row w g t ty cs fr d (hg w hS) hu hd hi]⟩
theorem results_two_rows {fn : Func} {p q u : Tmp} {ty : TypeId} (h : fn.results = #[.cell p ty, .cell q ty, .tmp u]) (tmps : Array Value) (w : World) (g k : Nat) (t : TypeId) (cs ds : Array Value) (d : TypeDesc)
    (hp : tmps.getD p undef = .pointer (some ⟨g, 0, none⟩)) (hq : tmps.getD q undef = .pointer (some ⟨k, 0, none⟩)) (hg : w.heap[g]? = some (.cells cs t (0, 0))) (hk : w.heap[k]? = some (.cells ds t (0, 0)))
    (hu : P.underlying ty = some d) (hd : (match d with | .struct _ | .array _ _ => true | _ => false) = true) (hi : (P.info? ty).map (·.size) = some cs.size) (hj : (P.info? ty).map (·.size) = some ds.size) :
    (results fn tmps).run P w = .ok (.tuple #[.agg cs, .agg ds, tmps.getD u undef]) w := by
  have hp' : tmps[p]?.getD undef = .pointer (some ⟨g, 0, none⟩) := by simpa using hp
  have hq' : tmps[q]?.getD undef = .pointer (some ⟨k, 0, none⟩) := by simpa using hq
  simp [results, h, hp', hq', asAddr, Sem.run_bind, Result.andThen, run_loadVar_row w g t ty cs _ d hg hu hd hi, run_loadVar_row w k t ty ds _ d hk hu hd hj]
end

def pairOk (a b : List Int) : Bool := isSeq a && isSeq b && decide (a.length = b.length)
/-- Four blocks of thirty-three cells, two of which are results. -/
structure PB (w : World) (g7 g9 : Nat) (CA CB : Array Value) (w' : World) : Prop where
  a : w'.heap[g7]? = some (.cells CA 48 (0, 0))
  b : w'.heap[g9]? = some (.cells CB 48 (0, 0))
  c : ∃ c, w'.heap[w.heap.size]? = some (.cells c 48 (0, 0)) ∧ c.size = 33
  d : ∃ c, w'.heap[w.heap.size + 1]? = some (.cells c 48 (0, 0)) ∧ c.size = 33
  below : Below w.heap.size w w'

set_option maxRecDepth 100000 in
set_option maxHeartbeats 2000000 in
theorem pairOf_walk (va vb : Value) (a b : List Int) (w : World) (hva : IS w va a) (hvb : IS w vb b) (hla : a.length ≤ 1048576) (hlb : b.length ≤ 1048576) :
    Calls Try.prog 85 #[va, vb] w (Ret w (.tuple #[.agg (if pairOk a b then phC a else phA z32 0), .agg (if pairOk a b then phC b else phA z32 0), .bool (pairOk a b)])) := by
  have HPA : ∀ (w : World), IS w va a → Calls Try.prog 99 #[va] w (Ret w (.tuple #[.agg (phC a), .bool (isSeq a)])) := fun w h => phasesOf_any va a w h hla
  have HPB : ∀ (w : World), IS w vb b → Calls Try.prog 99 #[vb] w (Ret w (.tuple #[.agg (phC b), .bool (isSeq b)])) := fun w h => phasesOf_any vb b w h hlb
  have hca := phC_len a
  have hcb := phC_len b
  have hsa := phC_size a
  have hsb := phC_size b
  have hoa := phC_one a
  have hob := phC_one b
  have hia : (Try.prog.info? 48).map (·.size) = some (phC a).size := by rw [hsa]; exact infoPh
  have hib : (Try.prog.info? 48).map (·.size) = some (phC b).size := by rw [hsb]; exact infoPh
  obtain ⟨CA, hCA⟩ : ∃ C, C = phC a := ⟨_, rfl⟩
  obtain ⟨CB, hCB⟩ : ∃ C, C = phC b := ⟨_, rfl⟩
  have hp : pairOk a b = (isSeq a && isSeq b && decide ((sqz a).length = (sqz b).length)) := by
    unfold pairOk
    cases ha : isSeq a <;> cases hb : isSeq b <;> simp [sqz, ha, hb]
  rw [hp]
  obtain ⟨na, hna⟩ : ∃ n, n = (sqz a).length := ⟨_, rfl⟩
  obtain ⟨nb, hnb⟩ : ∃ n, n = (sqz b).length := ⟨_, rfl⟩
  have hna32 : na ≤ 32 := by rw [hna]; exact sqz_len a
  have hnb32 : nb ≤ 32 := by rw [hnb]; exact sqz_len b
  rw [← hCA] at HPA hca hsa hoa hia ⊢
  rw [← hCB] at HPB hcb hsb hob hib ⊢
  rw [← hna] at hca ⊢
  rw [← hnb] at hcb ⊢
  have HPA' := Lib.hid HPA
  have HPB' := Lib.hid HPB
  have HCA := Lib.hid hca
  have HCB := Lib.hid hcb
  have HSA := Lib.hid hsa
  have HSB := Lib.hid hsb
  have HOA := Lib.hid hoa
  have HOB := Lib.hid hob
  have HIA := Lib.hid hia
  have HIB := Lib.hid hib
  clear HPA HPB hca hcb hsa hsb hoa hob hia hib hCA hCB hna hnb hp hla hlb
  obtain ⟨sa, hsa⟩ : ∃ s, s = isSeq a := ⟨_, rfl⟩
  obtain ⟨sb, hsb⟩ : ∃ s, s = isSeq b := ⟨_, rfl⟩
  rw [← hsa] at HPA' ⊢
  rw [← hsb] at HPB' ⊢
  clear hsa hsb
  have hw4 : ((w.alloc (.cells (phA z32 0) 48)).alloc (.cells (phA z32 0) 48)).heap[w.heap.size]? = some (.cells (phA z32 0) 48 (0, 0)) := heap_alloc2_old w _ _
  have hw5 : ((w.alloc (.cells (phA z32 0) 48)).alloc (.cells (phA z32 0) 48)).heap[w.heap.size + 1]? = some (.cells (phA z32 0) 48 (0, 0)) := heap_alloc2_new w _ _
  have hBw : Below w.heap.size w ((w.alloc (.cells (phA z32 0) 48)).alloc (.cells (phA z32 0) 48)) := by go_grown
  have hsz : ((w.alloc (.cells (phA z32 0) 48)).alloc (.cells (phA z32 0) 48)).heap.size = w.heap.size + 2 := by simp
  have HW4 := Lib.hid hw4
  have HW5 := Lib.hid hw5
  have HBW := Lib.hid hBw
  have HSZ := Lib.hid hsz
  clear hw4 hw5 hBw hsz
  obtain ⟨RA, hRA⟩ : ∃ R, R = (if (sa && sb && decide (na = nb)) = true then CA else phA z32 0) := ⟨_, rfl⟩
  obtain ⟨RB, hRB⟩ : ∃ R, R = (if (sa && sb && decide (na = nb)) = true then CB else phA z32 0) := ⟨_, rfl⟩
  obtain ⟨R, hR⟩ : ∃ R, R = (sa && sb && decide (na = nb)) := ⟨_, rfl⟩
  rw [← hRA, ← hRB, ← hR]
  by_cases hok : (sa && sb && decide (na = nb)) = true
  · rw [if_pos hok] at hRA hRB
    rw [hok] at hR
    simp only [Bool.and_eq_true, decide_eq_true_eq] at hok
    obtain ⟨⟨rfl, rfl⟩, rfl⟩ := hok
    have HRA := Lib.hid hRA
    have HRB := Lib.hid hRB
    have HR := Lib.hid hR
    clear hRA hRB hR
    go_enter Try.func85, Try.ntmps85
    go_wp2_with (refine wpList_alloc_big rfl 48 rfl (phA z32 0) zeroPh ?_)
    refine (HPA'.out _ (hva.below HBW.out)).mono ?_
    rintro e w1 ⟨rfl, hb1⟩
    have h14 := (hb1.block w.heap.size (by simp; omega)).trans HW4.out
    have h15 := (hb1.block (w.heap.size + 1) (by simp)).trans HW5.out
    have hB1 := joins HBW.out hb1
    have hs1 : w.heap.size + 2 ≤ w1.heap.size := by have := hb1.size; have := HSZ.out; omega
    have H14 := Lib.hid h14
    have H15 := Lib.hid h15
    have HB1 := Lib.hid hB1
    clear h14 h15 hB1 hb1
    go_wp2_with (first
      | (refine wpList_alloc_big rfl 48 rfl (phA z32 0) zeroPh ?_)
      | (refine wpList_store_big rfl 48 (.tmp 7) (.tmp 14) rfl w1.heap.size CA rfl rfl 48 _ (heap_alloc_new _ _) 33 infoPh HSA.out (phA_size _ _ z32_length) HOA.out w.heap.size w (belowa HB1.out _) (by omega) ?_; intro w2 hg2 ho2 hz2 hb2; have HG2 := Lib.hid hg2; have HO2 := Lib.hid ho2; have HB2 := Lib.hid hb2; have hs2 : w2.heap.size = w1.heap.size + 1 := (hz2.trans (by simp)); have HS2 := Lib.hid hs2; clear hg2 ho2 hz2 hb2 hs2))
    refine (HPB'.out _ (hvb.below HB2.out)).mono ?_
    rintro e w3 ⟨rfl, hb3⟩
    have hs2 := HS2.out
    have h34 := (hb3.block w.heap.size (by omega)).trans ((HO2.out w.heap.size (by omega)).trans ((heap_alloc_old _ _ (by omega)).trans H14.out))
    have h35 := (hb3.block (w.heap.size + 1) (by omega)).trans ((HO2.out (w.heap.size + 1) (by omega)).trans ((heap_alloc_old _ _ (by omega)).trans H15.out))
    have h37 := (hb3.block w1.heap.size (by omega)).trans HG2.out
    have hs3 : w1.heap.size + 1 ≤ w3.heap.size := by have := hb3.size; omega
    have hB3 := joins HB2.out hb3
    have H34 := Lib.hid h34
    have H35 := Lib.hid h35
    have H37 := Lib.hid h37
    have HB3 := Lib.hid hB3
    clear h34 h35 h37 hB3 hb3 hs2
    go_wp2_with (first
      | (refine wpList_alloc_big rfl 48 rfl (phA z32 0) zeroPh ?_)
      | (refine wpList_store_big rfl 48 (.tmp 9) (.tmp 19) rfl w3.heap.size CB rfl rfl 48 _ (heap_alloc_new _ _) 33 infoPh HSB.out (phA_size _ _ z32_length) HOB.out w.heap.size w (belowa HB3.out _) (by omega) ?_; intro w4 hg4 ho4 hz4 hb4; have h47 := (ho4 w1.heap.size (by omega)).trans ((heap_alloc_old _ _ (by omega)).trans H37.out); have H44 := Lib.hid ((ho4 w.heap.size (by omega)).trans ((heap_alloc_old _ _ (by omega)).trans H34.out)); have H45 := Lib.hid ((ho4 (w.heap.size + 1) (by omega)).trans ((heap_alloc_old _ _ (by omega)).trans H35.out)); have c7 := (cell_of_row w4 w1.heap.size 32 _ _ _ h47).trans HCA.out; have c9 := (cell_of_row w4 w3.heap.size 32 _ _ _ hg4).trans HCB.out; have H47 := Lib.hid h47; have H49 := Lib.hid hg4; have HB4 := Lib.hid hb4; clear h47 hg4 ho4 hz4 hb4)
      | (refine wpList_store_big rfl 48 (.tmp 4) (.tmp 34) rfl w.heap.size (phA z32 0) rfl rfl 48 (phA z32 0) H44.out 33 infoPh (phA_size _ _ z32_length) (phA_size _ _ z32_length) (phA_one _ _) w.heap.size w HB4.out (by omega) ?_; intro w5 hg5 ho5 hz5 hb5; have H54 := Lib.hid hg5; have H55 := Lib.hid ((ho5 (w.heap.size + 1) (by omega)).trans H45.out); have HB5 := Lib.hid hb5; clear hg5 ho5 hz5 hb5)
      | (refine wpList_store_big rfl 48 (.tmp 5) (.tmp 35) rfl (w.heap.size + 1) (phA z32 0) rfl rfl 48 (phA z32 0) H55.out 33 infoPh (phA_size _ _ z32_length) (phA_size _ _ z32_length) (phA_one _ _) w.heap.size w HB5.out (by omega) ?_; intro w6 hg6 ho6 hz6 hb6; have H64 := Lib.hid ((ho6 w.heap.size (by omega)).trans H54.out); have H65 := Lib.hid hg6; have HB6 := Lib.hid hb6; clear hg6 ho6 hz6 hb6))
    have HS0 : PB w w1.heap.size w3.heap.size CA CB w4.drew := ⟨H47.out, H49.out, ⟨_, H44.out, phA_size _ _ z32_length⟩, ⟨_, H45.out, phA_size _ _ z32_length⟩, belowN HB4.out 1⟩
    have hg17 : w.heap.size + 1 ≠ w1.heap.size := by omega
    refine wp_region_held_drew (S := PB w w1.heap.size w3.heap.size CA CB) (by kernel_rfl) HS0 (fun hHeld => ?_)
    refine wpAnyH_take (i := 0) (oi := { dst := some 36, op := Op.load 48 (.tmp 7), type := 48, pos := "l2_corr.go:46", after := #[], guard := none }) (v := .agg CA) rfl (by kernel_rfl) (by kernel_rfl) (by kernel_rfl) (fun _ _ _ h => h) (yields_row (by rfl) 48 (.tmp 7) rfl w1.heap.size rfl 48 CA (0, 0) _ (fun _ h => h.a) Try.underlying48 rfl HIA.out) hHeld ?_
    simp only [Act.put, List.setIfInBounds_toArray, List.set_cons_zero, List.set_cons_succ]
    refine wpAnyH_take (i := 1) (oi := { dst := some 37, op := Op.load 48 (.tmp 9), type := 48, pos := "l2_corr.go:46", after := #[{ on := 2, ground := Ground.gcOnly Departure.lateStores }], guard := none }) (v := .agg CB) rfl (by kernel_rfl) (by kernel_rfl) (by kernel_rfl) (fun _ _ _ h => h) (yields_row (by rfl) 48 (.tmp 9) rfl w3.heap.size rfl 48 CB (0, 0) _ (fun _ h => h.b) Try.underlying48 rfl HIB.out) hHeld ?_
    simp only [Act.put, List.setIfInBounds_toArray, List.set_cons_zero, List.set_cons_succ]
    refine wpAnyH_ready (rs := [2]) (by kernel_rfl) (by simp) (AllReadyH.cons rfl (fun K hK => ?_) AllReadyH.nil)
    rw [if_pos (by rfl)]
    obtain ⟨c4, hc4, hcs4⟩ := hHeld.c
    obtain ⟨c5, hc5, hcs5⟩ := hHeld.d
    refine wp_store_row 48 (.tmp 4) (.tmp 36) rfl w.heap.size CA rfl rfl 48 c4 hc4 HIA.out (by rw [hcs4, HSA.out]) HOA.out ?_
    have h54 := setRow_heap w4.drew w.heap.size _ CA _ _ hc4
    have h55 := (setRow_other w4.drew w.heap.size (w.heap.size + 1) CA (by omega)).trans hc5
    have h57 := (setRow_other w4.drew w.heap.size w1.heap.size CA (by omega)).trans hHeld.a
    have h59 := (setRow_other w4.drew w.heap.size w3.heap.size CA (by omega)).trans hHeld.b
    have hbS := hHeld.below.trans (show Below w.heap.size w4.drew (w4.drew.setRow w.heap.size CA) from ⟨rfl, rfl, rfl, by simp, fun k hk => setRow_other w4.drew w.heap.size k _ (by omega)⟩)
    refine hK.out _ _ ⟨h57, h59, ⟨_, h54, HSA.out⟩, ⟨_, h55, hcs5⟩, hbS⟩ (fun hHeld2 => ?_)
    clear hK K
    simp only [Act.put]
    refine wpAnyH_ready (rs := [3]) (by kernel_rfl) (by simp) (AllReadyH.cons rfl (fun K hK => ?_) AllReadyH.nil)
    rw [if_pos (by rfl)]
    obtain ⟨w5, hw5⟩ : ∃ w5, w5 = w4.drew.setRow w.heap.size CA := ⟨_, rfl⟩
    rw [← hw5] at hHeld2 h54 h55 ⊢
    refine wp_store_row 48 (.tmp 5) (.tmp 37) rfl (w.heap.size + 1) CB rfl rfl 48 c5 h55 HIB.out (by rw [hcs5, HSB.out]) HOB.out ?_
    have h64 := (setRow_other w5 (w.heap.size + 1) w.heap.size CB (by omega)).trans h54
    have h65 := setRow_heap w5 (w.heap.size + 1) _ CB _ _ h55
    have h67 := (setRow_other w5 (w.heap.size + 1) w1.heap.size CB (by omega)).trans hHeld2.a
    have h69 := (setRow_other w5 (w.heap.size + 1) w3.heap.size CB (by omega)).trans hHeld2.b
    have hbS6 := hHeld2.below.trans (show Below w.heap.size w5 (w5.setRow (w.heap.size + 1) CB) from ⟨rfl, rfl, rfl, by simp, fun k hk => setRow_other w5 (w.heap.size + 1) k _ (by omega)⟩)
    refine hK.out _ _ ⟨h67, h69, ⟨_, h64, HSA.out⟩, ⟨_, h65, HSB.out⟩, hbS6⟩ (fun hHeld3 => ?_)
    clear hK K
    simp only [Act.put]
    obtain ⟨w6, hw6⟩ : ∃ w6, w6 = w5.setRow (w.heap.size + 1) CB := ⟨_, rfl⟩
    rw [← hw6] at hHeld3 h64 h65 hbS6 ⊢
    refine wpAnyH_take (i := 4) (oi := { dst := some 6, op := Op.assign (.const (.bool true)), type := 4, pos := "l2_corr.go:46", after := #[{ on := 3, ground := Ground.chain }, { on := 0, ground := Ground.phase }, { on := 1, ground := Ground.phase }, { on := 2, ground := Ground.phase }, { on := 3, ground := Ground.phase }], guard := none }) (v := .bool true) rfl (by kernel_rfl) (by kernel_rfl) (by kernel_rfl) (fun _ _ _ h => h) (.inl ⟨by rfl, fun _ _ => rfl⟩) hHeld3 ?_
    simp only [Act.put, List.setIfInBounds_toArray]
    refine wpAnyH_done (by kernel_rfl) ?_ _
    have H64 := Lib.hid h64
    have H65 := Lib.hid h65
    have HB6 := Lib.hid hbS6
    clear h64 h65 hbS6 hHeld hHeld2 hHeld3 h54 h55 h57 h59 hbS h67 h69 hc4 hc5 hcs4 hcs5 HS0 hw5 hw6
    go_wp2_with fail
    refine bodyPost_ret (v := .tuple #[.agg RA, .agg RB, .bool R]) ?_ rfl ⟨rfl, HB6.out⟩
    rw [HRA.out, HRB.out, HR.out]
    exact results_two_rows Try.results85 _ _ (w.heap.size) (w.heap.size + 1) 48 _ _ _ (by rfl) (by rfl) H64.out H65.out Try.underlying48 rfl HIA.out HIB.out
  · have hok2 : (sa && sb && decide (na = nb)) = false := by simpa using hok
    rw [hok2] at hR hRA hRB
    rw [if_neg (by decide)] at hRA hRB
    have HRA := Lib.hid hRA
    have HRB := Lib.hid hRB
    have HR := Lib.hid hR
    clear hRA hRB hR hok2
    by_cases hab : sa = true ∧ sb = true
    · obtain ⟨rfl, rfl⟩ := hab
      have hne : ¬ na = nb := by simpa using hok
      clear hok
      go_enter Try.func85, Try.ntmps85
      go_wp2_with (refine wpList_alloc_big rfl 48 rfl (phA z32 0) zeroPh ?_)
      refine (HPA'.out _ (hva.below HBW.out)).mono ?_
      rintro e w1 ⟨rfl, hb1⟩
      have h14 := (hb1.block w.heap.size (by simp; omega)).trans HW4.out
      have h15 := (hb1.block (w.heap.size + 1) (by simp)).trans HW5.out
      have hB1 := joins HBW.out hb1
      have hs1 : w.heap.size + 2 ≤ w1.heap.size := by have := hb1.size; have := HSZ.out; omega
      have H14 := Lib.hid h14
      have H15 := Lib.hid h15
      have HB1 := Lib.hid hB1
      clear h14 h15 hB1 hb1
      go_wp2_with (first
        | (refine wpList_alloc_big rfl 48 rfl (phA z32 0) zeroPh ?_)
        | (refine wpList_store_big rfl 48 (.tmp 7) (.tmp 14) rfl w1.heap.size CA rfl rfl 48 _ (heap_alloc_new _ _) 33 infoPh HSA.out (phA_size _ _ z32_length) HOA.out w.heap.size w (belowa HB1.out _) (by omega) ?_; intro w2 hg2 ho2 hz2 hb2; have HG2 := Lib.hid hg2; have HO2 := Lib.hid ho2; have HB2 := Lib.hid hb2; have hs2 : w2.heap.size = w1.heap.size + 1 := (hz2.trans (by simp)); have HS2 := Lib.hid hs2; clear hg2 ho2 hz2 hb2 hs2))
      refine (HPB'.out _ (hvb.below HB2.out)).mono ?_
      rintro e w3 ⟨rfl, hb3⟩
      have hs2 := HS2.out
      have h34 := (hb3.block w.heap.size (by omega)).trans ((HO2.out w.heap.size (by omega)).trans ((heap_alloc_old _ _ (by omega)).trans H14.out))
      have h35 := (hb3.block (w.heap.size + 1) (by omega)).trans ((HO2.out (w.heap.size + 1) (by omega)).trans ((heap_alloc_old _ _ (by omega)).trans H15.out))
      have h37 := (hb3.block w1.heap.size (by omega)).trans HG2.out
      have hs3 : w1.heap.size + 1 ≤ w3.heap.size := by have := hb3.size; omega
      have hB3 := joins HB2.out hb3
      have H34 := Lib.hid h34
      have H35 := Lib.hid h35
      have H37 := Lib.hid h37
      have HB3 := Lib.hid hB3
      clear h34 h35 h37 hB3 hb3 hs2
      go_wp2_with (first
        | (refine wpList_alloc_big rfl 48 rfl (phA z32 0) zeroPh ?_)
        | (refine wpList_store_big rfl 48 (.tmp 9) (.tmp 19) rfl w3.heap.size CB rfl rfl 48 _ (heap_alloc_new _ _) 33 infoPh HSB.out (phA_size _ _ z32_length) HOB.out w.heap.size w (belowa HB3.out _) (by omega) ?_; intro w4 hg4 ho4 hz4 hb4; have h47 := (ho4 w1.heap.size (by omega)).trans ((heap_alloc_old _ _ (by omega)).trans H37.out); have H44 := Lib.hid ((ho4 w.heap.size (by omega)).trans ((heap_alloc_old _ _ (by omega)).trans H34.out)); have H45 := Lib.hid ((ho4 (w.heap.size + 1) (by omega)).trans ((heap_alloc_old _ _ (by omega)).trans H35.out)); have c7 := (cell_of_row w4 w1.heap.size 32 _ _ _ h47).trans HCA.out; have c9 := (cell_of_row w4 w3.heap.size 32 _ _ _ hg4).trans HCB.out; have H47 := Lib.hid h47; have H49 := Lib.hid hg4; have HB4 := Lib.hid hb4; clear h47 hg4 ho4 hz4 hb4)
        | (refine wpList_store_big rfl 48 (.tmp 4) (.tmp 34) rfl w.heap.size (phA z32 0) rfl rfl 48 (phA z32 0) H44.out 33 infoPh (phA_size _ _ z32_length) (phA_size _ _ z32_length) (phA_one _ _) w.heap.size w HB4.out (by omega) ?_; intro w5 hg5 ho5 hz5 hb5; have H54 := Lib.hid hg5; have H55 := Lib.hid ((ho5 (w.heap.size + 1) (by omega)).trans H45.out); have HB5 := Lib.hid hb5; clear hg5 ho5 hz5 hb5)
        | (refine wpList_store_big rfl 48 (.tmp 5) (.tmp 35) rfl (w.heap.size + 1) (phA z32 0) rfl rfl 48 (phA z32 0) H55.out 33 infoPh (phA_size _ _ z32_length) (phA_size _ _ z32_length) (phA_one _ _) w.heap.size w HB5.out (by omega) ?_; intro w6 hg6 ho6 hz6 hb6; have H64 := Lib.hid ((ho6 w.heap.size (by omega)).trans H54.out); have H65 := Lib.hid hg6; have HB6 := Lib.hid hb6; clear hg6 ho6 hz6 hb6))
      refine bodyPost_ret (v := .tuple #[.agg RA, .agg RB, .bool R]) ?_ rfl ⟨rfl, HB6.out⟩
      rw [HRA.out, HRB.out, HR.out]
      exact results_two_rows Try.results85 _ _ (w.heap.size) (w.heap.size + 1) 48 _ _ _ (by rfl) (by rfl) H64.out H65.out Try.underlying48 rfl (by rw [phA_size _ _ z32_length]; exact infoPh) (by rw [phA_size _ _ z32_length]; exact infoPh)
    · clear hok
      cases sa <;> cases sb
      all_goals first | (exact absurd ⟨rfl, rfl⟩ hab) | skip
      all_goals
        clear hab
        go_enter Try.func85, Try.ntmps85
        go_wp2_with (refine wpList_alloc_big rfl 48 rfl (phA z32 0) zeroPh ?_)
        refine (HPA'.out _ (hva.below HBW.out)).mono ?_
        rintro e w1 ⟨rfl, hb1⟩
        have h14 := (hb1.block w.heap.size (by simp; omega)).trans HW4.out
        have h15 := (hb1.block (w.heap.size + 1) (by simp)).trans HW5.out
        have hB1 := joins HBW.out hb1
        have hs1 : w.heap.size + 2 ≤ w1.heap.size := by have := hb1.size; have := HSZ.out; omega
        have H14 := Lib.hid h14
        have H15 := Lib.hid h15
        have HB1 := Lib.hid hB1
        clear h14 h15 hB1 hb1
        go_wp2_with (first
          | (refine wpList_alloc_big rfl 48 rfl (phA z32 0) zeroPh ?_)
          | (refine wpList_store_big rfl 48 (.tmp 7) (.tmp 14) rfl w1.heap.size CA rfl rfl 48 _ (heap_alloc_new _ _) 33 infoPh HSA.out (phA_size _ _ z32_length) HOA.out w.heap.size w (belowa HB1.out _) (by omega) ?_; intro w2 hg2 ho2 hz2 hb2; have HG2 := Lib.hid hg2; have HO2 := Lib.hid ho2; have HB2 := Lib.hid hb2; have hs2 : w2.heap.size = w1.heap.size + 1 := (hz2.trans (by simp)); have HS2 := Lib.hid hs2; clear hg2 ho2 hz2 hb2 hs2))
        refine (HPB'.out _ (hvb.below HB2.out)).mono ?_
        rintro e w3 ⟨rfl, hb3⟩
        have hs2 := HS2.out
        have h34 := (hb3.block w.heap.size (by omega)).trans ((HO2.out w.heap.size (by omega)).trans ((heap_alloc_old _ _ (by omega)).trans H14.out))
        have h35 := (hb3.block (w.heap.size + 1) (by omega)).trans ((HO2.out (w.heap.size + 1) (by omega)).trans ((heap_alloc_old _ _ (by omega)).trans H15.out))
        have h37 := (hb3.block w1.heap.size (by omega)).trans HG2.out
        have hs3 : w1.heap.size + 1 ≤ w3.heap.size := by have := hb3.size; omega
        have hB3 := joins HB2.out hb3
        have H34 := Lib.hid h34
        have H35 := Lib.hid h35
        have H37 := Lib.hid h37
        have HB3 := Lib.hid hB3
        clear h34 h35 h37 hB3 hb3 hs2
        go_wp2_with (first
          | (refine wpList_alloc_big rfl 48 rfl (phA z32 0) zeroPh ?_)
          | (refine wpList_store_big rfl 48 (.tmp 9) (.tmp 19) rfl w3.heap.size CB rfl rfl 48 _ (heap_alloc_new _ _) 33 infoPh HSB.out (phA_size _ _ z32_length) HOB.out w.heap.size w (belowa HB3.out _) (by omega) ?_; intro w4 hg4 ho4 hz4 hb4; have h47 := (ho4 w1.heap.size (by omega)).trans ((heap_alloc_old _ _ (by omega)).trans H37.out); have H44 := Lib.hid ((ho4 w.heap.size (by omega)).trans ((heap_alloc_old _ _ (by omega)).trans H34.out)); have H45 := Lib.hid ((ho4 (w.heap.size + 1) (by omega)).trans ((heap_alloc_old _ _ (by omega)).trans H35.out)); have c7 := (cell_of_row w4 w1.heap.size 32 _ _ _ h47).trans HCA.out; have c9 := (cell_of_row w4 w3.heap.size 32 _ _ _ hg4).trans HCB.out; have H47 := Lib.hid h47; have H49 := Lib.hid hg4; have HB4 := Lib.hid hb4; clear h47 hg4 ho4 hz4 hb4)
          | (refine wpList_store_big rfl 48 (.tmp 4) (.tmp 34) rfl w.heap.size (phA z32 0) rfl rfl 48 (phA z32 0) H44.out 33 infoPh (phA_size _ _ z32_length) (phA_size _ _ z32_length) (phA_one _ _) w.heap.size w HB4.out (by omega) ?_; intro w5 hg5 ho5 hz5 hb5; have H54 := Lib.hid hg5; have H55 := Lib.hid ((ho5 (w.heap.size + 1) (by omega)).trans H45.out); have HB5 := Lib.hid hb5; clear hg5 ho5 hz5 hb5)
          | (refine wpList_store_big rfl 48 (.tmp 5) (.tmp 35) rfl (w.heap.size + 1) (phA z32 0) rfl rfl 48 (phA z32 0) H55.out 33 infoPh (phA_size _ _ z32_length) (phA_size _ _ z32_length) (phA_one _ _) w.heap.size w HB5.out (by omega) ?_; intro w6 hg6 ho6 hz6 hb6; have H64 := Lib.hid ((ho6 w.heap.size (by omega)).trans H54.out); have H65 := Lib.hid hg6; have HB6 := Lib.hid hb6; clear hg6 ho6 hz6 hb6))
        refine bodyPost_ret (v := .tuple #[.agg RA, .agg RB, .bool R]) ?_ rfl ⟨rfl, HB6.out⟩
        rw [HRA.out, HRB.out, HR.out]
        exact results_two_rows Try.results85 _ _ (w.heap.size) (w.heap.size + 1) 48 _ _ _ (by rfl) (by rfl) H64.out H65.out Try.underlying48 rfl (by rw [phA_size _ _ z32_length]; exact infoPh) (by rw [phA_size _ _ z32_length]; exact infoPh)
end Go.Proofs.Ytodgalflngfnpaa
