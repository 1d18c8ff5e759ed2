/- The program's BestTurn. -/
import Derived.Test.YtoehehaeanepmabTnM
import Derived.Test.YtoehehaeanepmabITp
namespace Go.Proofs.Ytoehehaeanepmab
set_option maxRecDepth 100000
open Go.RowKit

/-- Four counts in a block. -/
def CntB (w : World) (g : Nat) (f : Nat → Nat) : Prop := ∀ d, d < 4 → w.cell? ⟨g, d, none⟩ = some (.int .i64 (f d : Int)) ∧ w.frozen? ⟨g, d, none⟩ = false
theorem CntB.below {w w' : World} {g : Nat} {f : Nat → Nat} (h : CntB w g f) (hb : Below w.heap.size w w') : CntB w' g f := fun d hd =>
  ⟨keepc hb (h d hd).1, (hb.frozen (p := ⟨g, d, none⟩) (World.block_lt_of_cell? w _ (h d hd).1)).trans (h d hd).2⟩
theorem CntB.up {w : World} {g : Nat} {f : Nat → Nat} (h : CntB w g f) (c : Nat) (hc : c < 4) : CntB (w.setCell ⟨g, c, none⟩ (.int .i64 ((f c : Int) + 1))) g (fun d => if d = c then f d + 1 else f d) := fun d hd => by
  by_cases e : d = c
  · subst e
    refine ⟨?_, by simp [go_sem, (h d hd).2]⟩
    show _ = some (Value.int .i64 ((if d = d then f d + 1 else f d : Nat) : Int))
    rw [if_pos rfl, World.cell?_setCell_same _ _ _ (h d hd).1]
    rfl
  · refine ⟨?_, by simp [go_sem, (h d hd).2]⟩
    show _ = some (Value.int .i64 ((if d = c then f d + 1 else f d : Nat) : Int))
    rw [if_neg e, World.cell?_setCell_other _ _ _ _ (by simp)]
    exact (h d hd).1
theorem elemA4 : Try.prog.elem 71 = 3 := by kernel_rfl
theorem lenA4 : Try.prog.arrayLen 71 = 4 := by kernel_rfl
theorem slice_all4 (g : Nat) (w : World) : (Instr.sliceAt 71 (.pointer (some ⟨g, 0, none⟩)) none none none).run Try.prog w = .ok (.slice (some ⟨g, 0, none⟩) 4 4) w := by
  have hu : Try.prog.underlying 71 = some (.array (Try.prog.arrayLen 71) (Try.prog.elem 71)) := by rw [lenA4, elemA4]; exact Try.underlying71
  rw [run_sliceAt_array_all w _ _ hu, lenA4, elemA4]
  simp [go_sem]
def zero4 : Array Value := #[.int .i64 0, .int .i64 0, .int .i64 0, .int .i64 0]
theorem zeroA4 (w : World) : (zeroValue 71).run Try.prog w = .ok (.agg zero4) w := by
  rw [Try.zeroValue71]
  rfl
set_option maxHeartbeats 1000000 in
theorem max4_any (g : Nat) (f : Nat → Nat) (w : World) (hc : CntB w g f) : Calls Try.prog 51 #[.slice (some ⟨g, 0, none⟩) 4 4] w (Ret w (.int .i64 (mxF f 3))) := by
  have HC := Lib.hid hc
  have c0 := (hc 0 (by omega)).1
  clear hc
  go_enter Try.func51, Try.ntmps51
  go_wp2_with fail
  clear c0
  go_loopw [4, 3] (fun i m wr => ∃ k : Nat, k ≤ 3 ∧ i = .int .i64 ((k + 1 : Nat) : Int) ∧ m = .int .i64 (mxF f k) ∧ wr = w) (fun i _ _ => 4 - (intOf i).toNat)
  case atStart => exact ⟨0, by omega, rfl, rfl, rfl⟩
  case round =>
    obtain ⟨k, hk, rfl, rfl, rfl⟩ := hrel
    by_cases hlt : k < 3
    · have c1 := (HC.out (k + 1) (by omega)).1
      have hm : mxF f (k + 1) = if mxF f k < (f (k + 1) : Int) then (f (k + 1) : Int) else mxF f k := rfl
      obtain ⟨x, hx⟩ : ∃ x : Int, x = (f (k + 1) : Int) := ⟨_, rfl⟩
      obtain ⟨y, hy⟩ : ∃ x, x = mxF f k := ⟨_, rfl⟩
      obtain ⟨q, hq⟩ : ∃ q, q = k + 1 := ⟨_, rfl⟩
      rw [← hx, ← hy] at hm
      rw [← hx] at c1
      rw [← hq] at c1 hm
      rw [← hy, ← hq]
      have h0 : (0 : Int) ≤ (q : Int) := by omega
      have h1 : (q : Int) < 4 := by omega
      have HM := Lib.hid hm
      have HQ := Lib.hid hq
      clear hx hy hm hq
      by_cases hgt : y < x
      · have HM1 := Lib.hid (show mxF f q = x by rw [HM.out, if_pos hgt])
        go_wp2_with fail
        go_roundw
        case rel => exact ⟨q, by have := HQ.out; omega, by go_num, by rw [HM1.out], by trivial⟩
        case measure => simp [intOf]; omega
      · have HM1 := Lib.hid (show mxF f q = y by rw [HM.out, if_neg hgt])
        go_wp2_with fail
        go_roundw
        case rel => exact ⟨q, by have := HQ.out; omega, by go_num, by rw [HM1.out], by trivial⟩
        case measure => simp [intOf]; omega
    · obtain rfl : k = 3 := by omega
      obtain ⟨y, hy⟩ : ∃ x, x = mxF f 3 := ⟨_, rfl⟩
      rw [← hy]
      have HY := Lib.hid hy
      clear hy
      go_wp2_with fail
      go_returns
      exact ⟨by first | rfl | (rw [← HY.out]; rfl), Below.refl _ _⟩
set_option maxHeartbeats 1000000 in
theorem index4_any (g : Nat) (f : Nat → Nat) (b : Nat) (hb : b < 4) (m : Int) (hm : m = (f b : Int)) (hl : ∀ j, j < b → (f j : Int) < m) (w : World) (hc : CntB w g f) : Calls Try.prog 50 #[.slice (some ⟨g, 0, none⟩) 4 4, .int .i64 m] w (Ret w (.int .i64 b)) := by
  have HC := Lib.hid hc
  have HL := Lib.hid hl
  have HM := Lib.hid hm
  clear hc hl hm
  go_enter Try.func50, Try.ntmps50
  go_wp2_with fail
  go_loopw [8] (fun i wr => ∃ k : Nat, k ≤ b ∧ i = .int .i64 k ∧ wr = w) (fun i _ => 4 - (intOf i).toNat)
  case atStart => exact ⟨0, by omega, rfl, rfl⟩
  case round =>
    obtain ⟨k, hk, rfl, rfl⟩ := hrel
    have c1 := (HC.out k (by omega)).1
    have h0 : (0 : Int) ≤ (k : Int) := by omega
    have h1 : (k : Int) < 4 := by omega
    by_cases hlt : k < b
    · have hlk := HL.out k hlt
      obtain ⟨x, hx⟩ : ∃ x : Int, x = (f k : Int) := ⟨_, rfl⟩
      rw [← hx] at c1 hlk
      have hne : (m == x) = false := by simp; omega
      clear hx hlk
      go_wp2_with fail
      go_roundw
      case rel => exact ⟨k + 1, by omega, by go_num, by trivial⟩
      case measure => simp [intOf]; omega
    · obtain rfl : k = b := by omega
      rw [← HM.out] at c1
      go_wp2_with fail
      go_returns
      exact ⟨rfl, Below.refl _ _⟩

/-- A signal's numbers stay where one block more is laid. -/
theorem cxKeep {w2 w3 : World} {x : Obj} {B g n : Nat} {E : Nat → Nat × Nat} (h : RowC w2 B g n E) (ho : ∀ k, k ≠ w2.heap.size → w3.heap[k]? = (w2.alloc x).heap[k]?) (hz : w3.heap.size = (w2.alloc x).heap.size) : CxAt w3 g 0 n E := by
  have hl := h.lt.2
  refine ⟨by rw [hz]; simp; omega, fun i hi => ?_⟩
  rw [Nat.zero_add, World.cell?_of_block (show w3.heap[(⟨g, i, none⟩ : Addr).block]? = w2.heap[(⟨g, i, none⟩ : Addr).block]? from (ho g (by omega)).trans (heap_alloc_old w2 x hl))]
  exact h.cell i hi
set_option maxRecDepth 100000 in
set_option maxHeartbeats 4000000 in
theorem iBestTurn (va vb : Value) (l : List (Int × Int)) (known : List Int) (w : World) (hva : IG w va l) (hvb : IS w vb known) (hla : l.length ≤ 1048576) (hlb : known.length ≤ 1048576) : Calls Try.prog 23 #[va, vb] w (Ret w (.tuple #[.int .i64 (beV l known), .bool (beOk l known)])) := by
  have HP := Lib.hid (pointsFrom_any va l w hva hla)
  have HPH := Lib.hid (fun w h => phasesOf_any vb known w h hlb)
  have hsz := phC_size known
  have hone := phC_one known
  have hclen := phC_len known
  obtain ⟨pa, ca, rfl⟩ := hva.slice
  obtain ⟨pb, cb, rfl⟩ := hvb.slice
  have HVB := Lib.hid hvb
  obtain ⟨C, hC⟩ : ∃ C, C = phC known := ⟨_, rfl⟩
  rw [← hC] at HPH hsz hone hclen
  have HSZ := Lib.hid hsz
  have HONE := Lib.hid hone
  have hok : beOk l known = (sgOk l && isSeq known && decide (known.length = l.length) && dcN (gre l) (gim l) l.length) := rfl
  clear hsz hone
  cases h1 : sgOk l with
  | false =>
    have ho : beOk l known = false := by rw [hok, h1]; rfl
    have hv : beV l known = 0 := by unfold beV; rw [ho]; rfl
    rw [ho, hv]
    rw [h1] at HP
    obtain ⟨N, hN⟩ : ∃ N, N = l.length := ⟨_, rfl⟩
    obtain ⟨M, hM⟩ : ∃ N, N = known.length := ⟨_, rfl⟩
    obtain ⟨E, hE⟩ : ∃ D, D = fbC (gre l) (gim l) := ⟨_, rfl⟩
    obtain ⟨q, hq⟩ : ∃ q, q = isSeq known := ⟨_, rfl⟩
    rw [← hN, ← hE] at HP
    rw [← hM] at HPH HVB ⊢
    rw [← hq] at HPH
    rw [← hN]
    clear ho hv hok h1 hva hvb hla hlb hN hM hE hq hC hclen
    go_enter Try.func23, Try.ntmps23
    go_wp2_with fail
    refine (HP.out).mono ?_
    rintro e w1 ⟨hb, ⟨h, _⟩ | ⟨_, rfl⟩⟩
    · cases h
    have HB1 := Lib.hid hb
    clear hb
    go_wp2_with fail
    refine (HPH.out _ (HVB.out.below HB1.out)).mono ?_
    rintro e w2 ⟨rfl, hb⟩
    have HB2 := Lib.hid (joins HB1.out hb)
    clear hb
    go_wp2_with (first
      | (refine wpList_alloc_big rfl 67 rfl (phA z32 0) zeroPh ?_)
      | (refine wpList_store_big rfl 67 (.tmp 8) (.tmp 23) rfl w2.heap.size C rfl rfl 67 _ (heap_alloc_new w2 _) 33 infoPh HSZ.out (phA_size _ _ z32_length) HONE.out w.heap.size w (belowa HB2.out _) (by have := HB2.out.size; omega) ?_; intro w3 hg3 ho3 hz3 hb3; have HG3 := Lib.hid hg3; have HO3 := Lib.hid ho3; have HB3 := Lib.hid hb3; have hz3' := hz3; clear hg3 ho3 hz3 hb3))
    go_returns
    exact ⟨rfl, HB3.out⟩
  | true =>
  rw [h1] at HP
  cases h2 : isSeq known with
  | false =>
    have ho : beOk l known = false := by rw [hok, h2, Bool.and_false]; rfl
    have hv : beV l known = 0 := by unfold beV; rw [ho]; rfl
    rw [ho, hv]
    rw [h2] at HPH
    obtain ⟨N, hN⟩ : ∃ N, N = l.length := ⟨_, rfl⟩
    obtain ⟨M, hM⟩ : ∃ N, N = known.length := ⟨_, rfl⟩
    obtain ⟨E, hE⟩ : ∃ D, D = fbC (gre l) (gim l) := ⟨_, rfl⟩
    rw [← hN, ← hE] at HP
    rw [← hM] at HPH HVB ⊢
    rw [← hN]
    clear ho hv hok h1 h2 hva hvb hla hlb hN hM hE hC hclen
    go_enter Try.func23, Try.ntmps23
    go_wp2_with fail
    refine (HP.out).mono ?_
    rintro e w1 ⟨hb, ⟨_, g, rfl, hrow⟩ | ⟨h, _⟩⟩
    case inr => cases h
    have HB1 := Lib.hid hb
    clear hb
    go_wp2_with fail
    refine (HPH.out _ (HVB.out.below HB1.out)).mono ?_
    rintro e w2 ⟨rfl, hb⟩
    have HB2 := Lib.hid (joins HB1.out hb)
    clear hb
    go_wp2_with (first
      | (refine wpList_alloc_big rfl 67 rfl (phA z32 0) zeroPh ?_)
      | (refine wpList_store_big rfl 67 (.tmp 8) (.tmp 23) rfl w2.heap.size C rfl rfl 67 _ (heap_alloc_new w2 _) 33 infoPh HSZ.out (phA_size _ _ z32_length) HONE.out w.heap.size w (belowa HB2.out _) (by have := HB2.out.size; omega) ?_; intro w3 hg3 ho3 hz3 hb3; have HG3 := Lib.hid hg3; have HO3 := Lib.hid ho3; have HB3 := Lib.hid hb3; have hz3' := hz3; clear hg3 ho3 hz3 hb3))
    go_returns
    exact ⟨rfl, HB3.out⟩
  | true =>
  rw [h2] at HPH
  have hk32 := isSeq_len h2
  have hCs : C = phA (padL known) known.length := by rw [hC]; exact phC_seq h2
  rw [show sqz known = known by unfold sqz; rw [h2]; rfl] at hclen
  by_cases h3 : known.length = l.length
  case neg =>
    have ho : beOk l known = false := by rw [hok, decide_eq_false h3, Bool.and_false]; rfl
    have hv : beV l known = 0 := by unfold beV; rw [ho]; rfl
    rw [ho, hv]
    obtain ⟨N, hN⟩ : ∃ N, N = l.length := ⟨_, rfl⟩
    obtain ⟨M, hM⟩ : ∃ N, N = known.length := ⟨_, rfl⟩
    obtain ⟨E, hE⟩ : ∃ D, D = fbC (gre l) (gim l) := ⟨_, rfl⟩
    rw [← hN, ← hE] at HP
    rw [← hM] at HPH HVB hclen h3 ⊢
    rw [← hN] at h3 ⊢
    have HCL := Lib.hid hclen
    have hn : ((N : Int) != (M : Int)) = true := by simp; omega
    clear ho hv hok h1 h2 hva hvb hla hlb hN hM hE hC hclen h3 hk32 hCs
    go_enter Try.func23, Try.ntmps23
    go_wp2_with fail
    refine (HP.out).mono ?_
    rintro e w1 ⟨hb, ⟨_, g, rfl, hrow⟩ | ⟨h, _⟩⟩
    case inr => cases h
    have HB1 := Lib.hid hb
    clear hb
    go_wp2_with fail
    refine (HPH.out _ (HVB.out.below HB1.out)).mono ?_
    rintro e w2 ⟨rfl, hb⟩
    have HB2 := Lib.hid (joins HB1.out hb)
    clear hb
    go_wp2_with (first
      | (refine wpList_alloc_big rfl 67 rfl (phA z32 0) zeroPh ?_)
      | (refine wpList_store_big rfl 67 (.tmp 8) (.tmp 23) rfl w2.heap.size C rfl rfl 67 _ (heap_alloc_new w2 _) 33 infoPh HSZ.out (phA_size _ _ z32_length) HONE.out w.heap.size w (belowa HB2.out _) (by have := HB2.out.size; omega) ?_; intro w3 hg3 ho3 hz3 hb3; have HG3 := Lib.hid hg3; have HO3 := Lib.hid ho3; have HB3 := Lib.hid hb3; have hz3' := hz3; have c32 : w3.cell? ⟨w2.heap.size, 32, none⟩ = some (.int .i64 M) := (by rw [cell_of_row w3 _ _ _ _ _ hg3]; exact HCL.out); clear hg3 ho3 hz3 hb3))
    go_returns
    exact ⟨rfl, HB3.out⟩
  have hgl := sgOk_good h1
  have h48 := sgOk_len h1
  obtain ⟨E, hE⟩ : ∃ D, D = fbC (gre l) (gim l) := ⟨_, rfl⟩
  have hcz : CZ E (gre l) (gim l) l.length := by rw [hE]; exact fbC_ok (gre l) (gim l) l.length (fun i hi => goodL_at hgl i hi)
  have HDE := Lib.hid (fun g w (h : CxAt w g 0 l.length E) => decided_any g 0 l.length l.length E (gre l) (gim l) h48 hcz (fun i hi => goodL_at hgl i hi) w h)
  rw [← hE] at HP
  cases h4 : dcN (gre l) (gim l) l.length with
  | false =>
    have ho : beOk l known = false := by rw [hok, h4, Bool.and_false]
    have hv : beV l known = 0 := by unfold beV; rw [ho]; rfl
    rw [ho, hv]
    rw [h4] at HDE
    obtain ⟨L, hL⟩ : ∃ L, L = dcL (gre l) (gim l) l.length := ⟨_, rfl⟩
    rw [← hL] at HDE
    rw [h3] at HPH HVB hclen ⊢
    obtain ⟨N, hN⟩ : ∃ N, N = l.length := ⟨_, rfl⟩
    rw [← hN] at HP HPH HVB hclen HDE ⊢
    have HCL := Lib.hid hclen
    clear ho hv hok h1 h2 hva hvb hla hlb hN hE hC hclen h3 hk32 hgl h48 hcz hL h4 hCs
    go_enter Try.func23, Try.ntmps23
    go_wp2_with fail
    refine (HP.out).mono ?_
    rintro e w1 ⟨hb, ⟨_, g, rfl, hrow⟩ | ⟨h, _⟩⟩
    case inr => cases h
    have HB1 := Lib.hid hb
    have HR1 := Lib.hid hrow
    clear hb hrow
    go_wp2_with fail
    refine (HPH.out _ (HVB.out.below HB1.out)).mono ?_
    rintro e w2 ⟨rfl, hb⟩
    have HB2 := Lib.hid (joins HB1.out hb)
    have HR2 := Lib.hid (HR1.out.below hb)
    clear hb
    go_wp2_with (first
      | (refine wpList_alloc_big rfl 67 rfl (phA z32 0) zeroPh ?_)
      | (refine wpList_store_big rfl 67 (.tmp 8) (.tmp 23) rfl w2.heap.size C rfl rfl 67 _ (heap_alloc_new w2 _) 33 infoPh HSZ.out (phA_size _ _ z32_length) HONE.out w.heap.size w (belowa HB2.out _) (by have := HB2.out.size; omega) ?_; intro w3 hg3 ho3 hz3 hb3; have HG3 := Lib.hid hg3; have HO3 := Lib.hid ho3; have HB3 := Lib.hid hb3; have hz3' := hz3; have c32 : w3.cell? ⟨w2.heap.size, 32, none⟩ = some (.int .i64 N) := (by rw [cell_of_row w3 _ _ _ _ _ hg3]; exact HCL.out); clear hg3 ho3 hz3 hb3))
    refine (HDE.out g _ (cxKeep HR2.out HO3.out hz3')).mono ?_
    rintro e w4 ⟨v4, rfl, ho4, hb4⟩
    have HB4 := Lib.hid (joins HB3.out hb4)
    clear ho4 hb4
    go_wp2_with fail
    go_returns
    exact ⟨rfl, HB4.out⟩
  | true =>
  have ho : beOk l known = true := by rw [hok, h1, h2, decide_eq_true h3, h4]; rfl
  obtain ⟨f, hf⟩ : ∃ f, f = beC l known l.length := ⟨_, rfl⟩
  obtain ⟨F, hF⟩ : ∃ F, F = tnF l known := ⟨_, rfl⟩
  have hv : beV l known = ((btN f 4).1 : Int) := by unfold beV; rw [ho, hf]; rfl
  rw [ho, hv]
  have hL4 : dcL (gre l) (gim l) l.length = gen l.length (dcT (gre l) (gim l)) := by unfold dcL; rw [h4]; rfl
  rw [h4, hL4] at HDE
  obtain ⟨G, hG⟩ : ∃ G, G = dcT (gre l) (gim l) := ⟨_, rfl⟩
  rw [← hG] at HDE
  have HFD := Lib.hid (fun (i : Nat) => show F i = (known.getD i 0 - G i) % 4 from by rw [hF, hG]; rfl)
  have HFI := Lib.hid (fun i => show 0 ≤ F i ∧ F i ≤ 3 from by rw [hF]; exact tnF_in l known i)
  have HGI := Lib.hid (fun i => show 0 ≤ G i ∧ G i ≤ 3 from by rw [hG]; exact nrV_in _ _)
  have HKI := Lib.hid (fun i (hi : i < known.length) => allIn_getD (isSeq_all h2) i hi)
  have HFC := Lib.hid (show (fun (d : Nat) => cnN F (d : Int) l.length) = f from by rw [hf, hF]; rfl)
  have HCLE := Lib.hid (fun (d : Nat) j => cnN_le F (d : Int) j)
  have hinv := btN_inv f 3
  rw [show (3 : Nat) + 1 = 4 from rfl] at hinv
  have hmx := mxF_eq f 3
  have HMX := Lib.hid (fun g w (h : CntB w g f) => show Calls Try.prog 51 #[.slice (some ⟨g, 0, none⟩) 4 4] w (Ret w (.int .i64 (btN f 4).2)) from by
    have := max4_any g f w h
    rw [hmx] at this
    exact this)
  have HIX := Lib.hid (fun g w (h : CntB w g f) => index4_any g f (btN f 4).1 (by have := hinv.1; omega) (btN f 4).2 hinv.2.1 hinv.2.2.2 w h)
  obtain ⟨bb, hbb⟩ : ∃ b, b = (btN f 4).1 := ⟨_, rfl⟩
  obtain ⟨mm, hmm⟩ : ∃ b, b = (btN f 4).2 := ⟨_, rfl⟩
  rw [← hbb, ← hmm] at HIX
  rw [← hmm] at HMX
  rw [← hbb]
  have HCP := Lib.hid (fun (i : Nat) (hi : i < known.length) => show C[i]? = some (.int .i64 (known.getD i 0)) from by
    rw [hCs, phA_get _ _ i (by rw [padL_length hk32]; omega), pad_getD _ i hi])
  rw [h3] at HPH HVB hclen HKI HCP hk32 ⊢
  obtain ⟨N, hN⟩ : ∃ N, N = l.length := ⟨_, rfl⟩
  rw [← hN] at HP HPH HVB hclen HDE HKI HCP HFC h48 hk32 ⊢
  have HCL := Lib.hid hclen
  have hN48 : (N : Int) ≤ 48 := by omega
  have hsl := slice_all4
  have HSL := Lib.hid hsl
  clear ho hv hok h1 h2 hva hvb hla hlb hN hE hC hclen h3 hgl hcz h4 hCs hf hF hL4 hG hinv hmx hbb hmm hsl
  go_enter Try.func23, Try.ntmps23
  go_wp2_with fail
  refine (HP.out).mono ?_
  rintro e w1 ⟨hb, ⟨_, g, rfl, hrow⟩ | ⟨h, _⟩⟩
  case inr => cases h
  have HB1 := Lib.hid hb
  have HR1 := Lib.hid hrow
  clear hb hrow
  go_wp2_with fail
  refine (HPH.out _ (HVB.out.below HB1.out)).mono ?_
  rintro e w2 ⟨rfl, hb⟩
  have HB2 := Lib.hid (joins HB1.out hb)
  have HR2 := Lib.hid (HR1.out.below hb)
  clear hb
  go_wp2_with (first
    | (refine wpList_alloc_big rfl 67 rfl (phA z32 0) zeroPh ?_)
    | (refine wpList_store_big rfl 67 (.tmp 8) (.tmp 23) rfl w2.heap.size C rfl rfl 67 _ (heap_alloc_new w2 _) 33 infoPh HSZ.out (phA_size _ _ z32_length) HONE.out w.heap.size w (belowa HB2.out _) (by have := HB2.out.size; omega) ?_; intro w3 hg3 ho3 hz3 hb3; have HG3 := Lib.hid hg3; have HO3 := Lib.hid ho3; have HB3 := Lib.hid hb3; have hz3' := hz3; have c32 : w3.cell? ⟨w2.heap.size, 32, none⟩ = some (.int .i64 N) := (by rw [cell_of_row w3 _ _ _ _ _ hg3]; exact HCL.out); clear hg3 ho3 hz3 hb3))
  refine (HDE.out g _ (cxKeep HR2.out HO3.out hz3')).mono ?_
  rintro e w4 ⟨v4, rfl, ho4, hb4⟩
  have HB4 := Lib.hid (joins HB3.out hb4)
  have HO4 := Lib.hid ho4.is
  have HL4 := Lib.hid ho4.lt
  have HPC := Lib.hid (fun (i : Nat) (hi : i < N) => show w4.cell? ⟨w2.heap.size, i, none⟩ = some (.int .i64 (known.getD i 0)) from keepc hb4 (by rw [cell_of_row w3 _ _ _ _ _ HG3.out]; exact HCP.out i hi))
  obtain ⟨a4, c4, hv4⟩ : ∃ a c, v4 = .slice a N c := by
    obtain ⟨a, c, h⟩ := ho4.is.slice
    rw [gen_length] at h
    exact ⟨a, c, h⟩
  subst hv4
  have hs4 := hb4.size
  clear ho4 hb4
  obtain ⟨gp, hgp⟩ : ∃ g, g = w2.heap.size := ⟨_, rfl⟩
  rw [← hgp] at HPC ⊢
  have hgp4 : gp < w4.heap.size := by rw [hgp]; have := hz3'; simp at this; omega
  clear hgp hz3'
  go_wp2_with (refine wpList_alloc_big rfl 71 rfl zero4 zeroA4 ?_)
  have HW4 := Lib.hid (belowa (Below.refl w4.heap.size w4) (.cells zero4 71))
  have HZ0 := Lib.hid (show CntB (w4.alloc (.cells zero4 71)) w4.heap.size (fun d => cnN F (d : Int) 0) from fun d hd => by
    refine ⟨?_, World.frozen?_alloc_new ..⟩
    rw [World.cell?_alloc_new]
    rcases four_cases hd with rfl | rfl | rfl | rfl <;> rfl)
  have HPC6 := Lib.hid (fun i hi => keepc HW4.out (HPC.out i hi))
  have HO6 := Lib.hid (HO4.out.below HW4.out)
  have HB6 := Lib.hid (belowa HB4.out (.cells zero4 71))
  have HG0 := Lib.hid (World.grownBy.refl (w4.alloc (.cells zero4 71)) (some w4.heap.size))
  obtain ⟨gc, hgc⟩ : ∃ g, g = w4.heap.size := ⟨_, rfl⟩
  obtain ⟨w6, hw6⟩ : ∃ g, g = w4.alloc (.cells zero4 71) := ⟨_, rfl⟩
  rw [← hw6] at HPC6 HO6 HB6 HG0 HZ0 ⊢
  have HL6 := Lib.hid (show ∀ k, (Value.slice a4 N c4).ownBlock = some k → k < gc from fun k hk => by rw [hgc]; exact (HL4.out k hk).2)
  rw [← hgc] at HG0 HZ0 hgp4 ⊢
  have HGW := Lib.hid (show w.heap.size ≤ gc from by rw [hgc]; exact HB4.out.size)
  clear hw6 hgc HW4 HPC HO4 HB4 HL4 HB3 HG3 HO3 hs4
  go_wp2_with fail
  go_loopw [47, 13, 14] (fun i _ _ wr => ∃ j : Nat, j ≤ N ∧ i = .int .i64 j ∧ CntB wr gc (fun d => cnN F (d : Int) j) ∧ w6.grownBy wr (some gc) ∧ Below w.heap.size w wr) (fun i _ _ _ => N - (intOf i).toNat)
  case atStart => exact ⟨0, Nat.zero_le _, rfl, HZ0.out, HG0.out, HB6.out⟩
  case round =>
    obtain ⟨j, hj, rfl, hcn, hgr, hbel⟩ := hrel
    by_cases hlt : j < N
    · have c2 := cellR hgr (HPC6.out j hlt) (show some gc ≠ some gp from fun e => by have := Option.some.inj e; omega)
      rcases HO6.out with ⟨h0', _⟩ | ⟨_, b, off, cap', hveq, _, hc⟩
      · have := congrArg List.length h0'
        rw [gen_length] at this
        simp at this
        omega
      simp only [Value.slice.injEq] at hveq
      obtain ⟨rfl, hnn, rfl⟩ := hveq
      clear hnn
      have cw := hc j (by rw [gen_length]; exact hlt)
      rw [gen_getD _ _ _ hlt] at cw
      have c1 := cellR hgr cw (show some gc ≠ some b from fun e => by have := HL6.out b rfl; have := Option.some.inj e; omega)
      have hfd := HFD.out j
      have hfi := HFI.out j
      obtain ⟨hx1, hx2⟩ := HKI.out j hlt
      obtain ⟨hy1, hy2⟩ := HGI.out j
      obtain ⟨cc, hcc⟩ : ∃ c : Nat, F j = (c : Int) := ⟨(F j).toNat, by omega⟩
      have hc4 : cc < 4 := by omega
      have hci : wr.cell? ⟨gc, cc, none⟩ = some (.int .i64 ((cnN F (cc : Int) j : Nat) : Int)) := (hcn cc hc4).1
      have hfz := (hcn cc hc4).2
      have hcl := HCLE.out cc j
      have hup : CntB (wr.setCell ⟨gc, cc, none⟩ (.int .i64 (((cnN F (cc : Int) j : Nat) : Int) + 1))) gc (fun d : Nat => if d = cc then cnN F (d : Int) j + 1 else cnN F (d : Int) j) := hcn.up cc hc4
      have HUP := Lib.hid (show (fun d : Nat => if d = cc then cnN F (d : Int) j + 1 else cnN F (d : Int) j) = fun (d : Nat) => cnN F (d : Int) (j + 1) from by
        funext d
        show _ = if F j = (d : Int) then cnN F (d : Int) j + 1 else cnN F (d : Int) j
        by_cases e : d = cc
        · subst e; rw [if_pos rfl, if_pos hcc]
        · rw [if_neg e, if_neg (fun h => e (by rw [hcc] at h; omega))])
      obtain ⟨x, hx⟩ : ∃ x, x = known.getD j 0 := ⟨_, rfl⟩
      obtain ⟨y, hy⟩ : ∃ y, y = G j := ⟨_, rfl⟩
      rw [← hx] at c2 hx1 hx2 hfd
      rw [← hy] at c1 hy1 hy2 hfd
      rw [hfd] at hcc
      have HMO := Lib.hid (fun w => modulo_any (x - y) 4 (by omega) (by omega) (by omega) (by omega) w)
      rw [hcc] at HMO
      obtain ⟨z, hz⟩ : ∃ z, z = cnN F (cc : Int) j := ⟨_, rfl⟩
      rw [← hz] at hci hcl hup
      have hz0 : (0 : Int) ≤ (z : Int) := by omega
      have hz1 : (z : Int) ≤ 48 := by omega
      have h0 : (0 : Int) ≤ (j : Int) := by omega
      have h1 : (j : Int) < (N : Int) := by omega
      have h32 : (j : Int) < 32 := by omega
      have hc0 : (0 : Int) ≤ (cc : Int) := by omega
      have hc5 : (cc : Int) < 4 := by omega
      have HU := Lib.hid hup
      have HGR := Lib.hid hgr
      have HB := Lib.hid hbel
      clear hc cw hx hy hfd hfi hcc hup hcl hz hcn hgr hbel
      go_wp2_with (refine (HMO.out _).mono ?_; rintro e w' ⟨rfl, rfl⟩)
      go_roundw
      case rel =>
        have hu := HU.out
        rw [HUP.out] at hu
        exact ⟨j + 1, by omega, by go_num, hu, grownSet HGR.out _ _, belows (b := ⟨gc, cc, none⟩) HB.out HGW.out _⟩
      case measure => simp [intOf]; omega
    · obtain rfl : j = N := by omega
      rw [HFC.out] at hcn
      have HCN := Lib.hid hcn
      have HB := Lib.hid hbel
      clear hcn hgr hbel
      go_wp2_with fail
      refine wp_region_held_drew (S := (fun w' => World.grownBy wr w' none)) (by kernel_rfl) (grownDrew (World.grownBy.refl _ _)) ?_
      obtain ⟨d1, hdw⟩ : ∃ w', w' = wr.drew := ⟨_, rfl⟩
      rw [← hdw]
      have hb : Below wr.heap.size wr d1 := by rw [hdw]; exact belowN (Below.refl _ _) 1
      have F1_C := Lib.hid (CntB.below HCN.out hb)
      have F1_B := Lib.hid (joins HB.out hb)
      clear hdw hb
      intro hHeld
      refine' wpAnyH_take (i := 0) (v := _) rfl (by kernel_rfl) (by kernel_rfl) (by kernel_rfl) (fun _ _ _ h => h) (Or.inl ⟨by rfl, ?hy1⟩) (by assumption) ?rest1
      case hy1 =>
        intro w h
        have e1 := HSL.out
        (try clear h)
        go_simp
        (try with_reducible rfl)
      (try simp only [Act.put, List.getElem_toArray, List.getElem_cons_zero, List.setIfInBounds_toArray, List.set_cons_zero, List.set_cons_succ])
      refine' wpAnyH_take (i := 1) (v := _) rfl (by kernel_rfl) (by kernel_rfl) (by kernel_rfl) (fun _ _ _ h => h) (Or.inl ⟨by rfl, ?hy2⟩) (by assumption) ?rest2
      case hy2 =>
        intro w h
        have e1 := HSL.out
        (try clear h)
        go_simp
        (try with_reducible rfl)
      (try simp only [Act.put, List.getElem_toArray, List.getElem_cons_zero, List.getElem_cons_succ, List.setIfInBounds_toArray, List.set_cons_zero, List.set_cons_succ])
      refine wpAnyH_ready (rs := [2]) (by kernel_rfl) (by simp) ?_
      refine AllReadyH.cons rfl (fun K hK => ?_) AllReadyH.nil
      go_simp
      refine (HMX.out _ _ F1_C.out).mono ?_
      rintro e d2 ⟨rfl, hb⟩
      have F2_C := Lib.hid (CntB.below F1_C.out hb)
      have F2_B := Lib.hid (joins F1_B.out hb)
      have hHeld := grownB hHeld hb
      clear hb
      refine hK.out _ _ hHeld (fun hHeld => ?_)
      clear hK K
      (try simp only [Act.put, List.getElem_toArray, List.getElem_cons_zero, List.getElem_cons_succ, List.setIfInBounds_toArray, List.set_cons_zero, List.set_cons_succ])
      refine wpAnyH_ready (rs := [3]) (by kernel_rfl) (by simp) ?_
      refine AllReadyH.cons rfl (fun K hK => ?_) AllReadyH.nil
      go_simp
      refine (HIX.out _ _ F2_C.out).mono ?_
      rintro e d3 ⟨rfl, hb⟩
      have F3_C := Lib.hid (CntB.below F2_C.out hb)
      have F3_B := Lib.hid (joins F2_B.out hb)
      have hHeld := grownB hHeld hb
      clear hb
      refine hK.out _ _ hHeld (fun hHeld => ?_)
      clear hK K
      (try simp only [Act.put, List.getElem_toArray, List.getElem_cons_zero, List.getElem_cons_succ, List.setIfInBounds_toArray, List.set_cons_zero, List.set_cons_succ])
      refine' wpAnyH_take (i := 4) (v := _) rfl (by kernel_rfl) (by kernel_rfl) (by kernel_rfl) (fun _ _ _ h => h) (Or.inl ⟨by rfl, ?hy3⟩) (by assumption) ?rest3
      case hy3 =>
        intro w h
        (try clear h)
        go_simp
        (try with_reducible rfl)
      (try simp only [Act.put, List.getElem_toArray, List.getElem_cons_zero, List.getElem_cons_succ, List.setIfInBounds_toArray, List.set_cons_zero, List.set_cons_succ])
      refine' wpAnyH_take (i := 5) (v := _) rfl (by kernel_rfl) (by kernel_rfl) (by kernel_rfl) (fun _ _ _ h => h) (Or.inl ⟨by rfl, ?hy4⟩) (by assumption) ?rest4
      case hy4 =>
        intro w h
        (try clear h)
        go_simp
        (try with_reducible rfl)
      (try simp only [Act.put, List.getElem_toArray, List.getElem_cons_zero, List.getElem_cons_succ, List.setIfInBounds_toArray, List.set_cons_zero, List.set_cons_succ])
      refine wpAnyH_done (by kernel_rfl) ?_ _
      have HB9 := Lib.hid F3_B.out
      clear hHeld
      go_wp2_with fail
      go_returns
      exact ⟨rfl, HB9.out⟩
end Go.Proofs.Ytoehehaeanepmab
