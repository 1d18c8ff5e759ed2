/- The program's JoinPair, InterleavePair, MateOf, JoinMates, MovedPair. -/
import Derived.Test.YtodgalflngfnpaaILists
namespace Go.Proofs.Ytodgalflngfnpaa
set_option maxRecDepth 100000
open Go.RowKit

theorem fo_ok (a b c d : List Int) : (decide (1 ≤ (pL a b).length) && decide ((pL a b).length = (pL c d).length)) = foOk a b c d := by
  unfold foOk
  cases h1 : goOk a b with
  | false =>
    have := pr_ok a b
    rw [h1] at this
    rw [this]; rfl
  | true =>
    have e1 := pr_ok a b
    rw [h1] at e1
    rw [e1, (pr_yes h1).1]
    cases h2 : goOk c d with
    | true => rw [(pr_yes h2).1]; rfl
    | false =>
      have e2 := pr_ok c d
      rw [h2] at e2
      have h3 := of_decide_eq_false e2
      have h4 := of_decide_eq_true e1
      rw [(pr_yes h1).1] at h4
      rw [decide_eq_false (by omega)]; rfl
theorem gen_same {n : Nat} {f g : Nat → Int} (h : ∀ i, i < n → f i = g i) : gen n f = gen n g := by
  unfold gen
  apply List.map_congr_left
  intro i hi
  exact h i (List.mem_range.1 hi)
theorem bar_back (l : List Int) : barG (backG l) = backG (barG l) := by
  unfold barG backG
  rw [gen_length, gen_length]
  refine gen_same fun i hi => ?_
  rw [gen_getD _ _ i hi, gen_getD _ _ (l.length - 1 - i) (by omega)]
theorem turn_turn (l : List Int) (k m : Int) : turnG (turnG l k) m = turnG l (k + m) := by
  unfold turnG
  rw [gen_length]
  refine gen_same fun i hi => ?_
  rw [gen_getD _ _ i hi]
  omega
theorem fill_single (u : Value) (Z : Array Value) (n : Nat) (hu : u.cells.size = n) (hZ : Z.size = n) (place : Nat → Option (Nat × Nat)) (h0 : place 0 = some (0, n)) : Instr.fill place Z [(0, u)] = some u.cells := by
  obtain ⟨s1, g1⟩ := put_get 0 u.cells Z
  simp only [Instr.fill, h0]
  have c1 : ¬ ((decide (u.cells.size ≠ n) || decide (0 + u.cells.size > Z.size)) = true) := by simp; omega
  rw [if_neg c1]
  congr 1
  apply Array.ext_getElem?
  intro k
  refine (g1 k).trans ?_
  by_cases hk : k < n
  · rw [if_pos (by omega)]; rfl
  · rw [if_neg (by omega)]
    exact (Array.getElem?_eq_none (by omega)).trans (Array.getElem?_eq_none (by omega)).symm
theorem Makes2B.onto {w w1 w' : World} {l m : List Int} {ok : Bool} {e : Ending} (h : Makes2B w1 l m ok e w') (hb : Below w.heap.size w w1) : Makes2B w l m ok e w' := by
  obtain ⟨v, u, rfl, h1, h2, h3, h4⟩ := h
  exact ⟨v, u, rfl, h1.mono hb.size, h2.mono hb.size, h3, joins hb h4⟩
section
variable {P : Program}
theorem built_of {t : TypeId} {fs : Array Field} {it : TypeInfo} {z : Value} {places : List (Nat × Nat)} {parts : List (Nat × Value)} {C : Array Value} (hi : P.info? t = some it) (hu : P.underlying t = some (.struct fs)) (hz : it.zero = some z)
    (hp : fs.toList.mapM (fun f => (P.info? f.type).map fun i => (f.offset, i.size)) = some places) (hf : Instr.fill (places.toArray[·]?) z.cells parts = some C) : P.built t parts = some C := by
  unfold Program.built
  simp only [hi, hu, hz, hp]
  exact hf
end
theorem places_joining : (match Try.prog.underlying 72 with | some (.struct fs) => fs.toList.mapM (fun f => (Try.prog.info? f.type).map fun i => (f.offset, i.size)) | _ => none) = some [(0, 66), (66, 1)] := by kernel_rfl
theorem infoZ_joining : (Try.prog.info? 72).map (fun i => (i.zero, i.size)) = some (some (.agg (prK [] [] 0)), 67) := by kernel_rfl
theorem built_joining (p q : List Int) (k : Int) : Try.prog.built 72 [(0, .agg (prC p q)), (1, .int .i64 k)] = some (prK p q k) := by
  have hz := infoZ_joining
  have hp := places_joining
  have hu := Try.underlying72
  rw [hu] at hp
  cases h : Try.prog.info? 72 with
  | none => rw [h] at hz; cases hz
  | some it =>
    rw [h] at hz
    simp only [Option.map_some, Option.some.injEq, Prod.mk.injEq] at hz
    exact built_of h hu hz.1 hp (fill_two (.agg (prC p q)) (.int .i64 k) _ 66 1 (prC_size p q) rfl (prK_size _ _ _) _ rfl rfl)
theorem places_climbing : (match Try.prog.underlying 89 with | some (.struct fs) => fs.toList.mapM (fun f => (Try.prog.info? f.type).map fun i => (f.offset, i.size)) | _ => none) = some [(0, 66), (66, 1)] := by kernel_rfl
theorem infoZ_climbing : (Try.prog.info? 89).map (fun i => (i.zero, i.size)) = some (some (.agg (prK [] [] 0)), 67) := by kernel_rfl
theorem built_climbing (p q : List Int) (k : Int) : Try.prog.built 89 [(0, .agg (prC p q)), (1, .int .i64 k)] = some (prK p q k) := by
  have hz := infoZ_climbing
  have hp := places_climbing
  have hu := Try.underlying89
  rw [hu] at hp
  cases h : Try.prog.info? 89 with
  | none => rw [h] at hz; cases hz
  | some it =>
    rw [h] at hz
    simp only [Option.map_some, Option.some.injEq, Prod.mk.injEq] at hz
    exact built_of h hu hz.1 hp (fill_two (.agg (prC p q)) (.int .i64 k) _ 66 1 (prC_size p q) rfl (prK_size _ _ _) _ rfl rfl)
theorem places_weaving : (match Try.prog.underlying 74 with | some (.struct fs) => fs.toList.mapM (fun f => (Try.prog.info? f.type).map fun i => (f.offset, i.size)) | _ => none) = some [(0, 66)] := by kernel_rfl
theorem infoZ_weaving : (Try.prog.info? 74).map (fun i => (i.zero, i.size)) = some (some (.agg (prC [] [])), 66) := by kernel_rfl
theorem built_weaving (p q : List Int) : Try.prog.built 74 [(0, .agg (prC p q))] = some (prC p q) := by
  have hz := infoZ_weaving
  have hp := places_weaving
  have hu := Try.underlying74
  rw [hu] at hp
  cases h : Try.prog.info? 74 with
  | none => rw [h] at hz; cases hz
  | some it =>
    rw [h] at hz
    simp only [Option.map_some, Option.some.injEq, Prod.mk.injEq] at hz
    exact built_of h hu hz.1 hp (fill_single (.agg (prC p q)) _ 66 (prC_size p q) (prC_size _ _) _ rfl)
theorem places_mating : (match Try.prog.underlying 75 with | some (.struct fs) => fs.toList.mapM (fun f => (Try.prog.info? f.type).map fun i => (f.offset, i.size)) | _ => none) = some [(0, 66)] := by kernel_rfl
theorem infoZ_mating : (Try.prog.info? 75).map (fun i => (i.zero, i.size)) = some (some (.agg (prC [] [])), 66) := by kernel_rfl
theorem built_mating (p q : List Int) : Try.prog.built 75 [(0, .agg (prC p q))] = some (prC p q) := by
  have hz := infoZ_mating
  have hp := places_mating
  have hu := Try.underlying75
  rw [hu] at hp
  cases h : Try.prog.info? 75 with
  | none => rw [h] at hz; cases hz
  | some it =>
    rw [h] at hz
    simp only [Option.map_some, Option.some.injEq, Prod.mk.injEq] at hz
    exact built_of h hu hz.1 hp (fill_single (.agg (prC p q)) _ 66 (prC_size p q) (prC_size _ _) _ rfl)
theorem places_joiningMates : (match Try.prog.underlying 78 with | some (.struct fs) => fs.toList.mapM (fun f => (Try.prog.info? f.type).map fun i => (f.offset, i.size)) | _ => none) = some [(0, 66), (66, 66)] := by kernel_rfl
theorem infoZ_joiningMates : (Try.prog.info? 78).map (fun i => (i.zero, i.size)) = some (some (.agg (prQ [] [] [] [])), 132) := by kernel_rfl
theorem built_joiningMates (p q r s : List Int) : Try.prog.built 78 [(0, .agg (prC p q)), (1, .agg (prC r s))] = some (prQ p q r s) := by
  have hz := infoZ_joiningMates
  have hp := places_joiningMates
  have hu := Try.underlying78
  rw [hu] at hp
  cases h : Try.prog.info? 78 with
  | none => rw [h] at hz; cases hz
  | some it =>
    rw [h] at hz
    simp only [Option.map_some, Option.some.injEq, Prod.mk.injEq] at hz
    exact built_of h hu hz.1 hp (fill_two (.agg (prC p q)) (.agg (prC r s)) _ 66 66 (prC_size p q) (prC_size r s) (prQ_size _ _ _ _) _ rfl rfl)

set_option maxHeartbeats 4000000 in
theorem ijoinPair (va vb : Value) (a b : List Int) (k : Int) (w : World) (hva : IS w va a) (hvb : IS w vb b) (hla : a.length ≤ 1048576) (hlb : b.length ≤ 1048576) :
    Calls Try.prog 32 #[va, vb, .int .i64 k] w (Makes2B w (jp a b k) (jq a b k) (jpOk a b k)) := by
  obtain ⟨hp, hq, hpq⟩ := pr_facts a b
  have HPF := Lib.hid (pairFrom_any va vb a b w hva hvb hla hlb)
  have hf : (decide (1 ≤ (pL a b).length) && inB k 0 3) = mvOk a b k := by rw [pr_ok]; rfl
  have hres : (mvOk a b k && fits (pL a b) (pR a b)) = jpOk a b k ∧ iff (mvOk a b k && fits (pL a b) (pR a b)) (iff (fits (pL a b) (pR a b)) (pL a b ++ turnG (pR a b) k)) = jp a b k ∧ iff (mvOk a b k && fits (pL a b) (pR a b)) (iff (fits (pL a b) (pR a b)) (pL a b ++ turnG (turnG (pR a b) k) 2)) = jq a b k := by
    cases hg : goOk a b with
    | false =>
      have h1 : mvOk a b k = false := by unfold mvOk; rw [hg]; rfl
      have h2 : jpOk a b k = false := by unfold jpOk; rw [h1]; rfl
      unfold jp jq
      rw [h1, h2, Bool.false_and]
      exact ⟨rfl, rfl, rfl⟩
    | true =>
      rw [(pr_yes hg).1, (pr_yes hg).2, turn_turn]
      unfold jp jq jpOk
      rw [show fits a b = decide (2 * a.length ≤ 32) from rfl]
      cases mvOk a b k <;> cases decide (2 * a.length ≤ 32) <;> exact ⟨rfl, rfl, rfl⟩
  have hs1 : isSeq (iff (fits (pL a b) (pR a b)) (pL a b ++ turnG (pR a b) k)) = true := iff_seq fun h => by
    rw [cat_seq _ _ hp (turnG_seq _ _ hq), turnG_length, ← hpq, ← Nat.two_mul]; exact h
  have hs2 : isSeq (iff (fits (pL a b) (pR a b)) (pL a b ++ turnG (turnG (pR a b) k) 2)) = true := iff_seq fun h => by
    rw [cat_seq _ _ hp (turnG_seq _ _ (turnG_seq _ _ hq)), turnG_length, turnG_length, ← hpq, ← Nat.two_mul]; exact h
  have HL := fun w => listsMade_joining (prK (pL a b) (pR a b) k) (mvOk a b k) (fits (pL a b) (pR a b)) _ _ hs1 hs2 w (fun w' _ => by rw [← hf]; exact isFit_joining _ _ k hp w') (fun h w' _ => made_joining _ _ k hp hq hpq (mvOk_parts h).2.1 (mvOk_parts h).2.2 w')
  rw [hres.2.1, hres.2.2, hres.1] at HL
  have HBU := Lib.hid (built_joining (pL a b) (pR a b) k)
  obtain ⟨J, hJ⟩ : ∃ Z, Z = prK (pL a b) (pR a b) k := ⟨_, rfl⟩
  rw [← hJ] at HL HBU
  obtain ⟨C, hC⟩ : ∃ Z, Z = prC (pL a b) (pR a b) := ⟨_, rfl⟩
  rw [← hC] at HPF HBU
  obtain ⟨X1, hX1⟩ : ∃ X, X = jp a b k := ⟨_, rfl⟩
  obtain ⟨X2, hX2⟩ : ∃ X, X = jq a b k := ⟨_, rfl⟩
  obtain ⟨ok, hok⟩ : ∃ X, X = jpOk a b k := ⟨_, rfl⟩
  rw [← hX1, ← hX2, ← hok] at HL ⊢
  have HL' := Lib.hid HL
  clear HL hJ hC hX1 hX2 hok hp hq hpq hva hvb hf hres hs1 hs2
  have B0 := Lib.hid (Below.refl w.heap.size w)
  go_enter Try.func32, Try.ntmps32
  go_wp2_with fail
  refine (HPF.out).mono ?_
  rintro e w1 ⟨rfl, hb⟩
  have B1 := Lib.hid (joins B0.out hb)
  clear hb
  go_wp2_with ((with_reducible refine at_op (Op.build 72 #[(0, .tmp 11), (1, .tmp 12)]) ?_); refine wpList_build_row rfl 72 [(0, .tmp 11), (1, .tmp 12)] rfl J HBU.out ?_)
  refine (HL'.out _).mono ?_
  rintro e w2 ⟨v_x, v_y, rfl, ho, ho', ap, hb⟩
  have B2 := Lib.hid (joins B1.out hb)
  have O2_x := Lib.hid ho
  have O2_y := Lib.hid ho'
  have AP := Lib.hid ap
  have LO := Lib.hid (show w.heap.size ≤ w1.heap.size from B1.out.size)
  clear ho ho' ap
  clear hb
  go_wp2_with fail
  go_returns
  exact ⟨_, _, rfl, O2_x.out.mono LO.out, O2_y.out.mono LO.out, AP.out, B2.out⟩

set_option maxHeartbeats 4000000 in
theorem iinterleavePair (va vb : Value) (a b : List Int) (w : World) (hva : IS w va a) (hvb : IS w vb b) (hla : a.length ≤ 1048576) (hlb : b.length ≤ 1048576) :
    Calls Try.prog 34 #[va, vb] w (Makes2B w (ip a b) (iq a b) (ipOk a b)) := by
  obtain ⟨hp, hq, hpq⟩ := pr_facts a b
  have HPF := Lib.hid (pairFrom_any va vb a b w hva hvb hla hlb)
  have hres : (goOk a b && fits (pL a b) (pR a b)) = ipOk a b ∧ iff (goOk a b && fits (pL a b) (pR a b)) (iff (fits (pL a b) (pR a b)) (weaveG (pL a b) (pR a b))) = ip a b ∧ iff (goOk a b && fits (pL a b) (pR a b)) (iff (fits (pL a b) (pR a b)) (weaveG (pL a b) (turnG (pR a b) 2))) = iq a b := by
    unfold ip iq ipOk
    cases hg : goOk a b with
    | false => exact ⟨rfl, rfl, rfl⟩
    | true =>
      rw [(pr_yes hg).1, (pr_yes hg).2]
      rw [show fits a b = decide (2 * a.length ≤ 32) from rfl]
      cases decide (2 * a.length ≤ 32) <;> exact ⟨rfl, rfl, rfl⟩
  have hs1 : isSeq (iff (fits (pL a b) (pR a b)) (weaveG (pL a b) (pR a b))) = true := iff_seq fun h => by
    rw [weaveG_seq _ _ hp hq hpq]; exact h
  have hs2 : isSeq (iff (fits (pL a b) (pR a b)) (weaveG (pL a b) (turnG (pR a b) 2))) = true := iff_seq fun h => by
    rw [weaveG_seq _ _ hp (turnG_seq _ _ hq) (by rw [turnG_length]; exact hpq)]; exact h
  have HL := fun w => listsMade_weaving (prC (pL a b) (pR a b)) (goOk a b) (fits (pL a b) (pR a b)) _ _ hs1 hs2 w (fun w' _ => by rw [← pr_ok]; exact isFit_weaving _ _ hp w') (fun h w' _ => made_weaving _ _ hp hq hpq w')
  rw [hres.2.1, hres.2.2, hres.1] at HL
  have HBU := Lib.hid (built_weaving (pL a b) (pR a b))
  obtain ⟨J, hJ⟩ : ∃ Z, Z = prC (pL a b) (pR a b) := ⟨_, rfl⟩
  have HBU := Lib.hid (show Try.prog.built 74 [(0, .agg (prC (pL a b) (pR a b)))] = some J by rw [hJ]; exact HBU.out)
  rw [← hJ] at HL
  obtain ⟨C, hC⟩ : ∃ Z, Z = prC (pL a b) (pR a b) := ⟨_, rfl⟩
  rw [← hC] at HPF
  have HBU := Lib.hid (show Try.prog.built 74 [(0, .agg C)] = some J by rw [hC]; exact HBU.out)
  obtain ⟨X1, hX1⟩ : ∃ X, X = ip a b := ⟨_, rfl⟩
  obtain ⟨X2, hX2⟩ : ∃ X, X = iq a b := ⟨_, rfl⟩
  obtain ⟨ok, hok⟩ : ∃ X, X = ipOk a b := ⟨_, rfl⟩
  rw [← hX1, ← hX2, ← hok] at HL ⊢
  have HL' := Lib.hid HL
  clear HL hJ hC hX1 hX2 hok hp hq hpq hva hvb hres hs1 hs2
  have B0 := Lib.hid (Below.refl w.heap.size w)
  go_enter Try.func34, Try.ntmps34
  go_wp2_with fail
  refine (HPF.out).mono ?_
  rintro e w1 ⟨rfl, hb⟩
  have B1 := Lib.hid (joins B0.out hb)
  clear hb
  go_wp2_with ((with_reducible refine at_op (Op.build 74 #[(0, .tmp 9)]) ?_); refine wpList_build_row rfl 74 [(0, .tmp 9)] rfl J HBU.out ?_)
  refine (HL'.out _).mono ?_
  rintro e w2 ⟨v_x, v_y, rfl, ho, ho', ap, hb⟩
  have B2 := Lib.hid (joins B1.out hb)
  have O2_x := Lib.hid ho
  have O2_y := Lib.hid ho'
  have AP := Lib.hid ap
  have LO := Lib.hid (show w.heap.size ≤ w1.heap.size from B1.out.size)
  clear ho ho' ap
  clear hb
  go_wp2_with fail
  go_returns
  exact ⟨_, _, rfl, O2_x.out.mono LO.out, O2_y.out.mono LO.out, AP.out, B2.out⟩

set_option maxHeartbeats 4000000 in
theorem imateOf (va vb : Value) (a b : List Int) (w : World) (hva : IS w va a) (hvb : IS w vb b) (hla : a.length ≤ 1048576) (hlb : b.length ≤ 1048576) :
    Calls Try.prog 36 #[va, vb] w (Makes2B w (mtp a b) (mtq a b) (goOk a b)) := by
  obtain ⟨hp, hq, hpq⟩ := pr_facts a b
  have HPF := Lib.hid (pairFrom_any va vb a b w hva hvb hla hlb)
  have hres : (goOk a b && true) = goOk a b ∧ iff (goOk a b && true) (barG (backG (pR a b))) = mtp a b ∧ iff (goOk a b && true) (turnG (barG (backG (pL a b))) 2) = mtq a b := by
    rw [Bool.and_true, bar_back, bar_back]
    refine ⟨rfl, ?_⟩
    unfold mtp mtq
    cases hg : goOk a b with
    | false => exact ⟨rfl, rfl⟩
    | true => rw [(pr_yes hg).1, (pr_yes hg).2]; exact ⟨rfl, rfl⟩
  have HL := fun w => listsMade_mating (prC (pL a b) (pR a b)) (goOk a b) true _ _ (barG_seq _ (backG_seq _ hq)) (turnG_seq _ 2 (barG_seq _ (backG_seq _ hp))) w (fun w' _ => by rw [← pr_ok]; exact isFit_mating _ _ hp w') (fun h w' _ => made_mating _ _ hp hq w')
  rw [hres.2.1, hres.2.2, hres.1] at HL
  have HBU := Lib.hid (built_mating (pL a b) (pR a b))
  obtain ⟨J, hJ⟩ : ∃ Z, Z = prC (pL a b) (pR a b) := ⟨_, rfl⟩
  have HBU := Lib.hid (show Try.prog.built 75 [(0, .agg (prC (pL a b) (pR a b)))] = some J by rw [hJ]; exact HBU.out)
  rw [← hJ] at HL
  obtain ⟨C, hC⟩ : ∃ Z, Z = prC (pL a b) (pR a b) := ⟨_, rfl⟩
  rw [← hC] at HPF
  have HBU := Lib.hid (show Try.prog.built 75 [(0, .agg C)] = some J by rw [hC]; exact HBU.out)
  obtain ⟨X1, hX1⟩ : ∃ X, X = mtp a b := ⟨_, rfl⟩
  obtain ⟨X2, hX2⟩ : ∃ X, X = mtq a b := ⟨_, rfl⟩
  obtain ⟨ok, hok⟩ : ∃ X, X = goOk a b := ⟨_, rfl⟩
  rw [← hX1, ← hX2, ← hok] at HL ⊢
  have HL' := Lib.hid HL
  clear HL hJ hC hX1 hX2 hok hp hq hpq hva hvb hres
  have B0 := Lib.hid (Below.refl w.heap.size w)
  go_enter Try.func36, Try.ntmps36
  go_wp2_with fail
  refine (HPF.out).mono ?_
  rintro e w1 ⟨rfl, hb⟩
  have B1 := Lib.hid (joins B0.out hb)
  clear hb
  go_wp2_with ((with_reducible refine at_op (Op.build 75 #[(0, .tmp 9)]) ?_); refine wpList_build_row rfl 75 [(0, .tmp 9)] rfl J HBU.out ?_)
  refine (HL'.out _).mono ?_
  rintro e w2 ⟨v_x, v_y, rfl, ho, ho', ap, hb⟩
  have B2 := Lib.hid (joins B1.out hb)
  have O2_x := Lib.hid ho
  have O2_y := Lib.hid ho'
  have AP := Lib.hid ap
  have LO := Lib.hid (show w.heap.size ≤ w1.heap.size from B1.out.size)
  clear ho ho' ap
  clear hb
  go_wp2_with fail
  go_returns
  exact ⟨_, _, rfl, O2_x.out.mono LO.out, O2_y.out.mono LO.out, AP.out, B2.out⟩

set_option maxHeartbeats 4000000 in
theorem imovedPair (va vb : Value) (a b : List Int) (k : Int) (w : World) (hva : IS w va a) (hvb : IS w vb b) (hla : a.length ≤ 1048576) (hlb : b.length ≤ 1048576) :
    Calls Try.prog 48 #[va, vb, .int .i64 k] w (Makes2B w (mvp a b k) (mvq a b k) (mvOk a b k)) := by
  obtain ⟨hp, hq, hpq⟩ := pr_facts a b
  have HPF := Lib.hid (pairFrom_any va vb a b w hva hvb hla hlb)
  have hf : (decide (1 ≤ (pL a b).length) && inB k 0 3) = mvOk a b k := by rw [pr_ok]; rfl
  have hres : (mvOk a b k && true) = mvOk a b k ∧ iff (mvOk a b k && true) (climbG (pL a b) k) = mvp a b k ∧ iff (mvOk a b k && true) (climbG (pR a b) k) = mvq a b k := by
    rw [Bool.and_true]
    refine ⟨rfl, ?_⟩
    unfold mvp mvq
    cases hg : goOk a b with
    | false =>
      have h1 : mvOk a b k = false := by unfold mvOk; rw [hg]; rfl
      rw [h1]; exact ⟨rfl, rfl⟩
    | true => rw [(pr_yes hg).1, (pr_yes hg).2]; exact ⟨rfl, rfl⟩
  have hcl : ∀ l, isSeq l = true → isSeq (climbG l k) = true := fun l hl => gen_seq _ _ (isSeq_len hl) (fun i _ => by omega)
  have HL := fun w => listsMade_climbing (prK (pL a b) (pR a b) k) (mvOk a b k) true _ _ (hcl _ hp) (hcl _ hq) w (fun w' _ => by rw [← hf]; exact isFit_climbing _ _ k hp w') (fun h w' _ => made_climbing _ _ k hp hq (mvOk_parts h).2.1 (mvOk_parts h).2.2 w')
  rw [hres.2.1, hres.2.2, hres.1] at HL
  have HBU := Lib.hid (built_climbing (pL a b) (pR a b) k)
  obtain ⟨J, hJ⟩ : ∃ Z, Z = prK (pL a b) (pR a b) k := ⟨_, rfl⟩
  rw [← hJ] at HL HBU
  obtain ⟨C, hC⟩ : ∃ Z, Z = prC (pL a b) (pR a b) := ⟨_, rfl⟩
  rw [← hC] at HPF HBU
  obtain ⟨X1, hX1⟩ : ∃ X, X = mvp a b k := ⟨_, rfl⟩
  obtain ⟨X2, hX2⟩ : ∃ X, X = mvq a b k := ⟨_, rfl⟩
  obtain ⟨ok, hok⟩ : ∃ X, X = mvOk a b k := ⟨_, rfl⟩
  rw [← hX1, ← hX2, ← hok] at HL ⊢
  have HL' := Lib.hid HL
  clear HL hJ hC hX1 hX2 hok hp hq hpq hva hvb hf hres hcl
  have B0 := Lib.hid (Below.refl w.heap.size w)
  go_enter Try.func48, Try.ntmps48
  go_wp2_with fail
  refine (HPF.out).mono ?_
  rintro e w1 ⟨rfl, hb⟩
  have B1 := Lib.hid (joins B0.out hb)
  clear hb
  go_wp2_with ((with_reducible refine at_op (Op.build 89 #[(0, .tmp 11), (1, .tmp 12)]) ?_); refine wpList_build_row rfl 89 [(0, .tmp 11), (1, .tmp 12)] rfl J HBU.out ?_)
  refine (HL'.out _).mono ?_
  rintro e w2 ⟨v_x, v_y, rfl, ho, ho', ap, hb⟩
  have B2 := Lib.hid (joins B1.out hb)
  have O2_x := Lib.hid ho
  have O2_y := Lib.hid ho'
  have AP := Lib.hid ap
  have LO := Lib.hid (show w.heap.size ≤ w1.heap.size from B1.out.size)
  clear ho ho' ap
  clear hb
  go_wp2_with fail
  go_returns
  exact ⟨_, _, rfl, O2_x.out.mono LO.out, O2_y.out.mono LO.out, AP.out, B2.out⟩

set_option maxHeartbeats 4000000 in
theorem ijoinMates (va vb vc vd : Value) (a b c d : List Int) (w : World) (hva : IS w va a) (hvb : IS w vb b) (hvc : IS w vc c) (hvd : IS w vd d) (hla : a.length ≤ 1048576) (hlb : b.length ≤ 1048576) (hlc : c.length ≤ 1048576) (hld : d.length ≤ 1048576) :
    Calls Try.prog 40 #[va, vb, vc, vd] w (Makes2B w (jmp a b c d) (jmq a b c d) (jmOk a b c d)) := by
  obtain ⟨hp, hq, hpq⟩ := pr_facts a b
  have HPF := Lib.hid (pairFrom_any va vb a b w hva hvb hla hlb)
  have HPG := Lib.hid (fun w' (h : Below w.heap.size w w') => pairFrom_any vc vd c d w' (hvc.below h) (hvd.below h) hlc hld)
  obtain ⟨hr, hs, hrs⟩ := pr_facts c d
  have hf := fo_ok a b c d
  have hfo : foOk a b c d = true → (pL a b).length = (pL c d).length ∧ (pR a b).length = (pR c d).length := fun h => by
    rw [← hf, Bool.and_eq_true] at h
    have := of_decide_eq_true h.2
    exact ⟨this, by omega⟩
  have hres : (foOk a b c d && (fits (pL a b) (pL c d) && fits (pR a b) (pR c d))) = jmOk a b c d ∧ iff (foOk a b c d && (fits (pL a b) (pL c d) && fits (pR a b) (pR c d))) (iff (fits (pL a b) (pL c d)) (pL a b ++ pL c d)) = jmp a b c d ∧ iff (foOk a b c d && (fits (pL a b) (pL c d) && fits (pR a b) (pR c d))) (iff (fits (pR a b) (pR c d)) (pR a b ++ pR c d)) = jmq a b c d := by
    cases hg : foOk a b c d with
    | false =>
      have h2 : jmOk a b c d = false := by unfold jmOk; rw [hg]; rfl
      unfold jmp jmq
      rw [h2, Bool.false_and]
      exact ⟨rfl, rfl, rfl⟩
    | true =>
      obtain ⟨g1, g2, g3⟩ := foOk_parts hg
      have g4 := (goOk_parts g1).2.2.1
      rw [(pr_yes g1).1, (pr_yes g1).2, (pr_yes g2).1, (pr_yes g2).2]
      unfold jmp jmq jmOk
      rw [hg, show fits a c = decide (2 * a.length ≤ 32) from rfl, show fits b d = decide (2 * b.length ≤ 32) from rfl, ← g4]
      cases decide (2 * a.length ≤ 32) <;> exact ⟨rfl, rfl, rfl⟩
  have hmd : ∀ w', foOk a b c d = true → Calls Try.prog 129 #[.agg (prQ (pL a b) (pR a b) (pL c d) (pR c d))] w' (Ret w' (.tuple #[.agg (prC (iff (fits (pL a b) (pL c d)) (pL a b ++ pL c d)) (iff (fits (pR a b) (pR c d)) (pR a b ++ pR c d))), .bool (fits (pL a b) (pL c d) && fits (pR a b) (pR c d))])) := fun w' h => made_joiningMates _ _ _ _ hp hq hr hs (hfo h).1 (hfo h).2 w'
  have HL : ∀ w, Calls Try.prog 68 #[.iface 78 (.agg (prQ (pL a b) (pR a b) (pL c d) (pR c d)))] w (Makes2B w (jmp a b c d) (jmq a b c d) (jmOk a b c d)) := fun w => by
    cases hg : foOk a b c d with
    | false =>
      have := listsMade_joiningMates (prQ (pL a b) (pR a b) (pL c d) (pR c d)) false true [] [] rfl rfl w (fun w' _ => by rw [← hg, ← hf]; exact isFit_joiningMates _ _ _ _ hp hr w') (fun h => by cases h)
      have h2 : jmOk a b c d = false := by unfold jmOk; rw [hg]; rfl
      unfold jmp jmq
      rw [h2]
      exact this
    | true =>
      have h1 := hfo hg
      have hs1 : isSeq (iff (fits (pL a b) (pL c d)) (pL a b ++ pL c d)) = true := iff_seq fun h => by
        rw [cat_seq _ _ hp hr, ← h1.1, ← Nat.two_mul]; exact h
      have hs2 : isSeq (iff (fits (pR a b) (pR c d)) (pR a b ++ pR c d)) = true := iff_seq fun h => by
        rw [cat_seq _ _ hq hs, ← h1.2, ← Nat.two_mul]; exact h
      have := listsMade_joiningMates (prQ (pL a b) (pR a b) (pL c d) (pR c d)) true _ _ _ hs1 hs2 w (fun w' _ => by rw [← hg, ← hf]; exact isFit_joiningMates _ _ _ _ hp hr w') (fun _ w' _ => hmd w' hg)
      rw [hg] at hres
      rwa [hres.2.1, hres.2.2, hres.1] at this
  have HBU := Lib.hid (built_joiningMates (pL a b) (pR a b) (pL c d) (pR c d))
  obtain ⟨J, hJ⟩ : ∃ Z, Z = prQ (pL a b) (pR a b) (pL c d) (pR c d) := ⟨_, rfl⟩
  rw [← hJ] at HL HBU
  obtain ⟨C, hC⟩ : ∃ Z, Z = prC (pL a b) (pR a b) := ⟨_, rfl⟩
  rw [← hC] at HPF HBU
  obtain ⟨D, hD⟩ : ∃ Z, Z = prC (pL c d) (pR c d) := ⟨_, rfl⟩
  rw [← hD] at HPG HBU
  obtain ⟨X1, hX1⟩ : ∃ X, X = jmp a b c d := ⟨_, rfl⟩
  obtain ⟨X2, hX2⟩ : ∃ X, X = jmq a b c d := ⟨_, rfl⟩
  obtain ⟨ok, hok⟩ : ∃ X, X = jmOk a b c d := ⟨_, rfl⟩
  rw [← hX1, ← hX2, ← hok] at HL ⊢
  have HL' := Lib.hid HL
  clear HL hJ hC hX1 hX2 hok hp hq hpq hva hvb hf hfo hres hmd hD hr hs hrs hvc hvd
  have B0 := Lib.hid (Below.refl w.heap.size w)
  go_enter Try.func40, Try.ntmps40
  go_wp2_with fail
  refine (HPF.out).mono ?_
  rintro e w1 ⟨rfl, hb⟩
  have B1 := Lib.hid (joins B0.out hb)
  clear hb
  go_wp2_with fail
  refine (HPG.out _ B1.out).mono ?_
  rintro e w2 ⟨rfl, hb⟩
  have B2 := Lib.hid (joins B1.out hb)
  clear hb
  go_wp2_with ((with_reducible refine at_op (Op.build 78 #[(0, .tmp 13), (1, .tmp 16)]) ?_); refine wpList_build_row rfl 78 [(0, .tmp 13), (1, .tmp 16)] rfl J HBU.out ?_)
  refine (HL'.out _).mono ?_
  rintro e w3 ⟨v_x, v_y, rfl, ho, ho', ap, hb⟩
  have B3 := Lib.hid (joins B2.out hb)
  have O3_x := Lib.hid ho
  have O3_y := Lib.hid ho'
  have AP := Lib.hid ap
  have LO := Lib.hid (show w.heap.size ≤ w2.heap.size from B2.out.size)
  clear ho ho' ap
  clear hb
  go_wp2_with fail
  go_returns
  exact ⟨_, _, rfl, O3_x.out.mono LO.out, O3_y.out.mono LO.out, AP.out, B3.out⟩
end Go.Proofs.Ytodgalflngfnpaa
