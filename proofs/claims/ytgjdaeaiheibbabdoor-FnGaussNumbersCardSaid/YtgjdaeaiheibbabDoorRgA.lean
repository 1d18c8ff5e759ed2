/- A region that draws its order, walked in none: every operation yields its value in every world that meets S, and leaves S; what each yields is the frame behind the region. -/
import Derived.Test.YtgjdaeaiheibbabDoorKit
import Derived.OrdersHeld
namespace Go.Proofs.YtgjdaeaiheibbabDoor
set_option maxRecDepth 100000
open Go.RowKit

/-- Some slots set anew. -/
def updL : List Value → List (Option Value) → List Value
  | [], _ => []
  | x :: xs, [] => x :: xs
  | _ :: xs, some v :: fs => v :: updL xs fs
  | x :: xs, none :: fs => x :: updL xs fs
theorem updL_len : ∀ (l : List Value) (F : List (Option Value)), (updL l F).length = l.length
  | [], _ => rfl
  | _ :: _, [] => rfl
  | _ :: xs, some _ :: fs => by simp [updL, updL_len xs fs]
  | _ :: xs, none :: fs => by simp [updL, updL_len xs fs]
theorem updL_keep : ∀ (l : List Value) (F : List (Option Value)) (t : Nat), (F.map Option.isSome).getD t false = false → (updL l F)[t]? = l[t]?
  | [], _, _, _ => rfl
  | _ :: _, [], _, _ => rfl
  | _ :: xs, some _ :: fs, 0, h => by simp at h
  | _ :: xs, some _ :: fs, t + 1, h => by simpa [updL] using updL_keep xs fs t (by simpa using h)
  | _ :: xs, none :: fs, 0, _ => rfl
  | _ :: xs, none :: fs, t + 1, h => by simpa [updL] using updL_keep xs fs t (by simpa using h)
/-- The frame with some slots set anew. -/
def actF (a : Act) (F : List (Option Value)) : Act := ⟨(updL a.tmps.toList F).toArray, a.defers⟩

/-- Every operation waits for those whose slots it reads, none for one behind it; every slot that is set is an operation's. -/
def rgB (ops : List Oper) (mask : List Bool) : Bool :=
  (ops.zipIdx.all fun x =>
    x.1.dst.isSome && (match x.1.op with | .select .. => false | _ => true) && (x.1.after.toList.all fun e => decide (e.on < x.2)) &&
    ((x.1.looksAt ops.toArray).all fun t => ops.zipIdx.all fun y => y.1.dst != some t || x.1.after.toList.any fun e => Region.binds .any e && e.on == y.2)) &&
  mask.zipIdx.all fun m => !m.1 || ops.any fun o => o.dst == some m.2
section
variable {P : Program} {ops : Array Oper} {S : World → Prop} {Q : Exit → Act → World → Prop}

/-- What an operation yields in every world that meets S. -/
def RgY (P : Program) (ops : Array Oper) (S : World → Prop) (aF : Act) (o : Oper) : Prop :=
  (Region.wanted o (yielded ops aF.tmps) = true ∧ ∀ w, S w →
    ((execOp aF.eval o).run P w = .ok (.value (aF.tmps.getD (o.dst.getD 0) undef)) w ∨
     ∃ f args, (execOp aF.eval o).run P w = .ok (.enter f args) w ∧ Calls P f args w (fun e w' => e = .returned (aF.tmps.getD (o.dst.getD 0) undef) ∧ S w'))) ∨
  (Region.wanted o (yielded ops aF.tmps) = false ∧ aF.tmps.getD (o.dst.getD 0) undef = undef)
def RgAll (P : Program) (ops : Array Oper) (S : World → Prop) (aF : Act) : List Oper → Prop
  | [] => True
  | o :: r => RgY P ops S aF o ∧ RgAll P ops S aF r
theorem RgAll.at {aF : Act} {l : List Oper} (h : RgAll P ops S aF l) : ∀ o ∈ l, RgY P ops S aF o := by
  induction l with
  | nil => intro o ho; cases ho
  | cons x r ih =>
    intro o ho
    rcases List.mem_cons.1 ho with rfl | ho
    · exact h.1
    · exact ih h.2 o ho

structure RgInv (ops : Array Oper) (a0 aF : Act) (listed : Array Bool) (a : Act) : Prop where
  size : listed.size = ops.size
  defers : a.defers = a0.defers
  len : a.tmps.size = a0.tmps.size
  done : ∀ t (j : Nat) (o : Oper), ops[j]? = some o → o.dst = some t → listed.getD j false = true → a.tmps[t]? = aF.tmps[t]?
  kept : ∀ t, (∀ (j : Nat) (o : Oper), ops[j]? = some o → o.dst = some t → listed.getD j false = false) → a.tmps[t]? = a0.tmps[t]?

theorem count_set_false : ∀ (l : List Bool) (i : Nat), l[i]? = some false → (l.set i true).count false + 1 = l.count false
  | [], _, h => by simp at h
  | b :: l, 0, h => by simp at h; subst h; simp
  | b :: l, i + 1, h => by
    have := count_set_false l i (by simpa using h)
    cases b <;> simp at this ⊢ <;> omega

theorem rg_dst {mask : List Bool} (hB : rgB ops.toList mask = true) {i : Nat} {o : Oper} (hi : ops[i]? = some o) :
    (∃ d, o.dst = some d) ∧ (∀ cs b, o.op ≠ .select cs b) ∧ (∀ e ∈ o.after, e.on < i) ∧
    (∀ t ∈ o.looksAt ops, ∀ (j : Nat) (oj : Oper), ops[j]? = some oj → oj.dst = some t → ∃ e ∈ o.after, Region.binds .any e = true ∧ e.on = j) := by
  unfold rgB at hB
  rw [Bool.and_eq_true] at hB
  have hmem : ∀ (j : Nat) (oj : Oper), ops[j]? = some oj → (oj, j) ∈ ops.toList.zipIdx := fun j oj h => by
    rw [List.mem_zipIdx_iff_getElem?]
    simpa using h
  have h := List.all_eq_true.1 hB.1 _ (hmem i o hi)
  simp only [Bool.and_eq_true] at h
  obtain ⟨⟨⟨h1, h2⟩, h3⟩, h4⟩ := h
  refine ⟨Option.isSome_iff_exists.1 h1, fun cs b e => ?_, fun e he => ?_, fun t ht j oj hj hd => ?_⟩
  · rw [e] at h2; exact Bool.false_ne_true h2
  · simpa using List.all_eq_true.1 h3 e (Array.mem_toList_iff.2 he)
  · have h5 := List.all_eq_true.1 h4 t (by simpa using ht)
    have h6 := List.all_eq_true.1 h5 _ (hmem j oj hj)
    simp only [Bool.or_eq_true] at h6
    rcases h6 with h6 | h6
    · simp [hd] at h6
    · obtain ⟨e, he, hb⟩ := List.any_eq_true.1 h6
      simp only [Bool.and_eq_true, beq_iff_eq] at hb
      exact ⟨e, Array.mem_toList_iff.1 he, hb.1, hb.2⟩
theorem rg_mask {mask : List Bool} (hB : rgB ops.toList mask = true) {t : Nat} (hm : mask.getD t false = true) : ∃ (j : Nat) (o : Oper), ops[j]? = some o ∧ o.dst = some t := by
  unfold rgB at hB
  rw [Bool.and_eq_true] at hB
  have ht : t < mask.length := by
    apply Classical.byContradiction
    intro h
    simp [List.getD, List.getElem?_eq_none (show mask.length ≤ t by omega)] at hm
  have h1 : mask[t] = true := by simpa [List.getD, ht] using hm
  have h := List.all_eq_true.1 hB.2 (mask[t], t) (by rw [List.mem_zipIdx_iff_getElem?]; simp)
  simp only [h1, Bool.not_true, Bool.false_or] at h
  obtain ⟨o, ho, hd⟩ := List.any_eq_true.1 h
  obtain ⟨j, hj⟩ := List.getElem?_of_mem ho
  exact ⟨j, o, by simpa using hj, by simpa using hd⟩

theorem RgInv.sees {a0 a : Act} {F : List (Option Value)} {listed : Array Bool} (hB : rgB ops.toList (F.map Option.isSome) = true) (hI : RgInv ops a0 (actF a0 F) listed a)
    {i : Nat} {o : Oper} (hi : ops[i]? = some o) (hall : ∀ e ∈ o.after, Region.binds .any e = true → listed.getD e.on false = true) : ∀ t ∈ o.looksAt ops, a.tmps[t]? = (actF a0 F).tmps[t]? := by
  intro t ht
  by_cases hx : ∃ (j : Nat) (oj : Oper), ops[j]? = some oj ∧ oj.dst = some t
  · obtain ⟨j, oj, hj, hd⟩ := hx
    obtain ⟨e, he, hb, rfl⟩ := (rg_dst hB hi).2.2.2 t ht j oj hj hd
    exact hI.done t _ oj hj hd (hall e he hb)
  · have hn : ∀ (j : Nat) (oj : Oper), ops[j]? = some oj → oj.dst = some t → listed.getD j false = false := fun j oj hj hd => absurd ⟨j, oj, hj, hd⟩ hx
    rw [hI.kept t hn]
    have hm : (F.map Option.isSome).getD t false = false := by
      cases h : (F.map Option.isSome).getD t false with
      | false => rfl
      | true => exact absurd (rg_mask hB h) hx
    have := updL_keep a0.tmps.toList F t hm
    simpa [actF] using this.symm
theorem looks_eval {o : Oper} {a b : Act} (h : ∀ t ∈ o.looksAt ops, a.tmps[t]? = b.tmps[t]?) (hs : ∀ cs b, o.op ≠ .select cs b) : execOp a.eval o = execOp b.eval o ∧ Region.wanted o (yielded ops a.tmps) = Region.wanted o (yielded ops b.tmps) := by
  constructor
  · refine execOp_congr o hs (fun x hx => ?_)
    cases x with
    | tmp t =>
      have := h t (List.mem_append_left _ (List.mem_filterMap.2 ⟨.tmp t, by simpa using hx, rfl⟩))
      simp [Act.eval, Array.getD_eq_getD_getElem?, this]
    | _ => rfl
  · unfold Region.wanted
    cases hg : o.guard with
    | none => rfl
    | some gw =>
      obtain ⟨g, want⟩ := gw
      have hy : yielded ops a.tmps g = yielded ops b.tmps g := by
        unfold yielded
        cases ht : (ops[g]?).bind (·.dst) with
        | none => rfl
        | some t =>
          have := h t (by simp [Oper.looksAt, hg, ht])
          simp [this]
      simp only [hy]
theorem RgInv.step {a0 a : Act} {F : List (Option Value)} {listed : Array Bool} (hI : RgInv ops a0 (actF a0 F) listed a) {i : Nat} {o : Oper} {d : Tmp} (hi : ops[i]? = some o) (hd : o.dst = some d) :
    RgInv ops a0 (actF a0 F) (listed.setIfInBounds i true) (a.put o.dst ((actF a0 F).tmps.getD (o.dst.getD 0) undef)) := by
  have hlt : i < listed.size := by
    rw [hI.size]
    exact (Array.getElem?_eq_some_iff.1 hi).1
  have hsz : (actF a0 F).tmps.size = a0.tmps.size := by simp [actF, updL_len]
  have hset : ∀ t, t = d → (a.put o.dst ((actF a0 F).tmps.getD (o.dst.getD 0) undef)).tmps[t]? = (actF a0 F).tmps[t]? := by
    intro t e
    subst e
    simp only [Act.put, hd, Option.getD_some]
    by_cases hb : t < a.tmps.size
    · have hb2 : t < (actF a0 F).tmps.size := by rw [hsz, ← hI.len]; exact hb
      simp [hb, hb2]
    · have hb2 : ¬ t < (actF a0 F).tmps.size := by rw [hsz, ← hI.len]; exact hb
      rw [Array.getElem?_eq_none (by simpa using Nat.le_of_not_lt hb), Array.getElem?_eq_none (Nat.le_of_not_lt hb2)]
  have hoth : ∀ t, t ≠ d → (a.put o.dst ((actF a0 F).tmps.getD (o.dst.getD 0) undef)).tmps[t]? = a.tmps[t]? := by
    intro t e
    simp only [Act.put, hd]
    exact Array.getElem?_setIfInBounds_ne (Ne.symm e)
  refine ⟨by simpa using hI.size, by simp [Act.put, hd, hI.defers], by simp [Act.put, hd, hI.len], fun t j oj hj hdj hl => ?_, fun t hn => ?_⟩
  · by_cases e : t = d
    · exact hset t e
    · rw [hoth t e]
      by_cases hji : j = i
      · subst hji
        rw [hi] at hj
        cases hj
        rw [hd] at hdj
        exact absurd (Option.some.inj hdj).symm e
      · refine hI.done t j oj hj hdj ?_
        rwa [getD_set_ne false (Ne.symm hji)] at hl
  · have e : t ≠ d := fun e => by
      subst e
      have := hn i o hi hd
      simp [hlt] at this
    rw [hoth t e]
    refine hI.kept t (fun j oj hj hdj => ?_)
    by_cases hji : j = i
    · subst hji
      have := hn j oj hj hdj
      simp [hlt] at this
    · have := hn j oj hj hdj
      rwa [getD_set_ne false (Ne.symm hji)] at this
theorem RgInv.final {a0 a : Act} {F : List (Option Value)} {listed : Array Bool} (hB : rgB ops.toList (F.map Option.isSome) = true) (hI : RgInv ops a0 (actF a0 F) listed a)
    (hr : Region.ready .any ops listed = []) : a = actF a0 F := by
  have hall : ∀ j, j < ops.size → listed.getD j false = true := by
    intro j
    induction j using Nat.strongRecOn with
    | ind j ih =>
      intro hj
      cases hl : listed.getD j false with
      | true => rfl
      | false =>
        have hjl : j < listed.size := by rw [hI.size]; exact hj
        have hmem : j ∈ Region.ready .any ops listed := mem_ready.2 ⟨by simpa [hjl] using hl, ops[j], by simp [hj], fun e he _ => by
          have h3 := (rg_dst hB (i := j) (o := ops[j]) (by simp [hj])).2.2.1 e he
          exact ih e.on h3 (by omega)⟩
        rw [hr] at hmem
        cases hmem
  obtain ⟨tm, df⟩ := a
  have h1 : df = a0.defers := hI.defers
  have h2 : tm = (actF a0 F).tmps := by
    apply Array.ext_getElem?
    intro t
    by_cases hx : ∃ (j : Nat) (oj : Oper), ops[j]? = some oj ∧ oj.dst = some t
    · obtain ⟨j, oj, hj, hd⟩ := hx
      exact hI.done t j oj hj hd (hall j (Array.getElem?_eq_some_iff.1 hj).1)
    · have h3 := hI.kept t (fun j oj hj hd => absurd ⟨j, oj, hj, hd⟩ hx)
      have hm : (F.map Option.isSome).getD t false = false := by
        cases h : (F.map Option.isSome).getD t false with
        | false => rfl
        | true => exact absurd (rg_mask hB h) hx
      have h4 := updL_keep a0.tmps.toList F t hm
      exact h3.trans (by simpa [actF] using h4.symm)
  subst h1 h2
  rfl
theorem rg_any {a0 : Act} {F : List (Option Value)} (hB : rgB ops.toList (F.map Option.isSome) = true) (hY : RgAll P ops S (actF a0 F) ops.toList) (hQ : ∀ w', S w' → Q .normal (actF a0 F) w') :
    ∀ (fuel : Nat) (listed : Array Bool) (a : Act) (w : World), RgInv ops a0 (actF a0 F) listed a → S w → listed.toList.count false ≤ fuel → wpAny P .any ops Q fuel listed a w := by
  intro fuel
  induction fuel with
  | zero =>
    intro listed a w hI hS hc
    have hr : Region.ready .any ops listed = [] := by
      cases h : Region.ready .any ops listed with
      | nil => rfl
      | cons j r =>
        have hj : j ∈ Region.ready .any ops listed := by rw [h]; exact List.mem_cons_self
        obtain ⟨h1, o, ho, -⟩ := mem_ready.1 hj
        have hjl : j < listed.size := by rw [hI.size]; exact (Array.getElem?_eq_some_iff.1 ho).1
        have h2 : false ∈ listed.toList := by
          have : listed[j] = false := by simpa [hjl] using h1
          rw [← this]
          exact Array.mem_toList_iff.2 (Array.getElem_mem hjl)
        have := List.count_pos_iff.2 h2
        omega
    exact ⟨hr, by rw [hI.final hB hr]; exact hQ w hS⟩
  | succ fuel ih =>
    intro listed a w hI hS hc
    refine ⟨fun hr => by rw [hI.final hB hr]; exact hQ w hS, fun i hi => ?_⟩
    obtain ⟨h1, o, ho, hall⟩ := mem_ready.1 hi
    obtain ⟨⟨d, hd⟩, hsel, -, -⟩ := rg_dst hB ho
    have hil : i < listed.size := by rw [hI.size]; exact (Array.getElem?_eq_some_iff.1 ho).1
    obtain ⟨he, hw⟩ := looks_eval (hI.sees hB ho hall) hsel
    have hI2 := hI.step ho hd
    have hc2 : (listed.setIfInBounds i true).toList.count false ≤ fuel := by
      have h3 := count_set_false listed.toList i (by have : listed[i] = false := by simpa [hil] using h1
                                                     rw [← this]; simp [hil])
      rw [Array.toList_setIfInBounds]
      omega
    have hK : ∀ w', S w' → wpAny P .any ops Q fuel (listed.setIfInBounds i true) (a.put o.dst ((actF a0 F).tmps.getD (o.dst.getD 0) undef)) w' := fun w' hS' => ih _ _ _ hI2 hS' hc2
    have hy := hY.at o (by rw [← Array.getElem?_toList] at ho; exact List.mem_of_getElem? ho)
    unfold wpOp
    simp only [ho]
    rw [hw]
    rcases hy with ⟨hwt, hv⟩ | ⟨hwf, hv⟩
    · rw [if_pos hwt]
      refine Or.inl ?_
      unfold Oper.wp
      rw [he]
      rcases hv w hS with hv | ⟨f, args, hv, hcall⟩
      · rw [hv, Oper.upon_value]
        exact hK w hS
      · rw [hv, Oper.upon_enter]
        refine hcall.mono (fun e w' h => ?_)
        obtain ⟨rfl, hS'⟩ := h
        exact hK w' hS'
    · rw [hwf, if_neg Bool.false_ne_true]
      have := hK w hS
      rwa [hv] at this
/-- **A region that draws its order, every operation of which yields its value in every world that meets S.** -/
theorem wp_region_all {id : Nat} {a0 aF : Act} {w : World} (F : List (Option Value)) (S : World → Prop) (hm : P.follows .mixedOrders = true) (haF : actF a0 F = aF) (hB : rgB ops.toList (F.map Option.isSome) = true)
    (hS : S w.drew) (hY : RgAll P ops S aF ops.toList) (hQ : ∀ w', S w' → Q .normal aF w') : (Code.region id ops true).wp P Q a0 w := by
  subst haF
  refine wp_region_any hm (rg_any hB hY hQ ops.size _ a0 _ ⟨by simp, rfl, rfl, fun t j o hj _ hl => ?_, fun t _ => rfl⟩ hS ?_)
  · exfalso
    have hj2 := (Array.getElem?_eq_some_iff.1 hj).1
    simp [hj2] at hl
  · simp
end
end Go.Proofs.YtgjdaeaiheibbabDoor
