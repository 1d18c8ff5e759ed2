/- The laws of two Gaussian numbers: PlusGauss, TimesGauss, out of the contracts of the two functions. -/
import Derived.Test.YtkkcdabcoafflaaBox
import Derived.Deep.DeepCutAuto
namespace Go.Proofs.Ytkkcdabcoafflaa
open Go.RowKit

/-- The law's two parameters in their boxes. -/
structure PG (a b c d : Int) (w wr : World) : Prop where
  below : Below w.heap.size w wr
  size : w.heap.size + 2 ≤ wr.heap.size
  a0 : wr.cell? ⟨w.heap.size, 0, none⟩ = some (.int .i64 a)
  a1 : wr.cell? ⟨w.heap.size, 1, none⟩ = some (.int .i64 b)
  b0 : wr.cell? ⟨w.heap.size + 1, 0, none⟩ = some (.int .i64 c)
  b1 : wr.cell? ⟨w.heap.size + 1, 1, none⟩ = some (.int .i64 d)
theorem PG.start (a b c d : Int) (w : World) (T T' : TypeId) : PG a b c d w ((w.alloc (.cells #[.int .i64 a, .int .i64 b] T)).alloc (.cells #[.int .i64 c, .int .i64 d] T')) := by
  have e : (w.alloc (.cells #[.int .i64 a, .int .i64 b] T)).heap.size = w.heap.size + 1 := by simp
  refine ⟨belowa (belowa (Below.refl _ _) _) _, by simp, keepa _ (cell_new0 _ _ _ _), keepa _ (cell_new1 _ _ _ _), ?_, ?_⟩
  · rw [← e]; exact cell_new0 _ _ _ _
  · rw [← e]; exact cell_new1 _ _ _ _
theorem PG.drew {a b c d : Int} {w wr : World} (h : PG a b c d w wr) : PG a b c d w wr.drew := ⟨belowN h.below 1, h.size, h.a0, h.a1, h.b0, h.b1⟩
theorem PG.step {a b c d : Int} {w wr w' : World} (h : PG a b c d w wr) (hb : Below wr.heap.size wr w') : PG a b c d w w' :=
  ⟨joins h.below hb, Nat.le_trans h.size hb.size, keepc hb h.a0, keepc hb h.a1, keepc hb h.b0, keepc hb h.b1⟩
theorem PG.alloc {a b c d : Int} {w wr : World} (h : PG a b c d w wr) (o : Obj) : PG a b c d w (wr.alloc o) := h.step (belowa (Below.refl _ _) _)
theorem PG.set {a b c d : Int} {w wr : World} (h : PG a b c d w wr) {g j : Nat} (hg : w.heap.size + 2 ≤ g) (u : Value) : PG a b c d w (wr.setCell ⟨g, j, none⟩ u) :=
  ⟨belows h.below (by simp; omega) _, by simpa using h.size, keeps h.a0 (by simp; omega), keeps h.a1 (by simp; omega), keeps h.b0 (by simp; omega), keeps h.b1 (by simp; omega)⟩
theorem PG.all {a b c d : Int} {w wr : World} (h : PG a b c d w wr) : PG a b c d w wr ∧ wr.cell? ⟨w.heap.size, 0, none⟩ = some (.int .i64 a) ∧ wr.cell? ⟨w.heap.size, 1, none⟩ = some (.int .i64 b) ∧ wr.cell? ⟨w.heap.size + 1, 0, none⟩ = some (.int .i64 c) ∧ wr.cell? ⟨w.heap.size + 1, 1, none⟩ = some (.int .i64 d) := ⟨h, h.a0, h.a1, h.b0, h.b1⟩
/-- The parameters in their boxes, and the model's number in its own, below B. -/
structure PT (a b c d : Int) (x y : Value) (g B : Nat) (w wr : World) : Prop where
  pg : PG a b c d w wr
  tn : TN (w.heap.size + 2) x y g wr
  lt : g < B
  low : w.heap.size + 2 ≤ B
  size : B ≤ wr.heap.size
theorem PT.start {a b c d : Int} {x y : Value} {g : Nat} {w wr : World} (h : PG a b c d w wr) (hn : TN (w.heap.size + 2) x y g wr) : PT a b c d x y g wr.heap.size w wr := ⟨h, hn, hn.lt, h.size, Nat.le_refl _⟩
theorem PT.drew {a b c d : Int} {x y : Value} {g B : Nat} {w wr : World} (h : PT a b c d x y g B w wr) : PT a b c d x y g B w wr.drew := ⟨h.pg.drew, h.tn.drew, h.lt, h.low, h.size⟩
theorem PT.step {a b c d : Int} {x y : Value} {g B : Nat} {w wr w' : World} (h : PT a b c d x y g B w wr) (hb : Below wr.heap.size wr w') : PT a b c d x y g B w w' :=
  ⟨h.pg.step hb, h.tn.step hb, h.lt, h.low, Nat.le_trans h.size hb.size⟩
theorem PT.alloc {a b c d : Int} {x y : Value} {g B : Nat} {w wr : World} (h : PT a b c d x y g B w wr) (o : Obj) : PT a b c d x y g B w (wr.alloc o) := h.step (belowa (Below.refl _ _) _)
theorem PT.set {a b c d : Int} {x y : Value} {g B : Nat} {w wr : World} (h : PT a b c d x y g B w wr) {k j : Nat} (hk : B ≤ k) (u : Value) : PT a b c d x y g B w (wr.setCell ⟨k, j, none⟩ u) :=
  ⟨h.pg.set (Nat.le_trans h.low hk) u, h.tn.set (by have := h.lt; omega) u, h.lt, h.low, by simpa using h.size⟩
theorem PT.all {a b c d : Int} {x y : Value} {g B : Nat} {w wr : World} (h : PT a b c d x y g B w wr) : PT a b c d x y g B w wr ∧ wr.cell? ⟨w.heap.size, 0, none⟩ = some (.int .i64 a) ∧ wr.cell? ⟨w.heap.size, 1, none⟩ = some (.int .i64 b) ∧ wr.cell? ⟨w.heap.size + 1, 0, none⟩ = some (.int .i64 c) ∧ wr.cell? ⟨w.heap.size + 1, 1, none⟩ = some (.int .i64 d) := ⟨h, h.pg.a0, h.pg.a1, h.pg.b0, h.pg.b1⟩

set_option maxRecDepth 100000 in
set_option maxHeartbeats 4000000 in
theorem plusGauss_walk (a b c d X Y : Int) (r : Bool) (w : World)
    (hs : ∀ w : World, Calls Try.prog 18 #[.agg #[.int .i64 a, .int .i64 b], .agg #[.int .i64 c, .int .i64 d]] w (Ret w (.tuple #[.agg #[.int .i64 X, .int .i64 Y], .bool r])))
    (hi : ∀ w : World, Calls Try.prog 19 #[.agg #[.int .i64 a, .int .i64 b], .agg #[.int .i64 c, .int .i64 d]] w (Ret w (.tuple #[.agg #[.int .i64 X, .int .i64 Y], .bool r]))) :
    Calls Try.prog 4 #[.agg #[.int .i64 a, .int .i64 b], .agg #[.int .i64 c, .int .i64 d]] w (Ret w (.bool true)) := by
  have HS := Lib.hid hs
  have HI := Lib.hid hi
  clear hs hi
  have hp0 := PG.start a b c d w 23 23
  have hs0 := hp0.size
  go_enter Try.func4, Try.ntmps4
  go_wp2_with fail
  go_cut [5, 6] (fun p q wr => ∃ g, p = .pointer (some ⟨g, 0, none⟩) ∧ q = .bool r ∧ PG a b c d w wr ∧ TN (w.heap.size + 2) (.int .i64 X) (.int .i64 Y) g wr)
  case first =>
    go_region_held3 (fun w' => PG a b c d w w' ∧ w'.cell? ⟨w.heap.size, 0, none⟩ = some (.int .i64 a) ∧ w'.cell? ⟨w.heap.size, 1, none⟩ = some (.int .i64 b) ∧ w'.cell? ⟨w.heap.size + 1, 0, none⟩ = some (.int .i64 c) ∧ w'.cell? ⟨w.heap.size + 1, 1, none⟩ = some (.int .i64 d))
      (first
        | exact PG.all (by assumption)
        | exact PG.all (PG.drew (by assumption))
        | exact PG.all (PG.alloc (by assumption) _)
        | exact PG.all (PG.drew (PG.alloc (by assumption) _))
        | exact PG.all (PG.set (PG.set (by assumption) (by omega) _) (by omega) _)
        | exact PG.all (PG.drew (PG.set (PG.set (by assumption) (by omega) _) (by omega) _)))
      (first
        | (go_at_call 16; refine (toGauss_any _ _ _).mono ?_; rintro e w' ⟨rfl, hb⟩; (try go_split_ands); have hp := PG.step (by assumption) hb; have hz := hp.size; (first | have hn := TN.step (by assumption) hb | have hn := TN.step (TN.new (by assumption) _ _ _) hb | have hn := TN.step (TN.drew (TN.new (by assumption) _ _ _)) hb | skip); (try (have ⟨_, _, n0, n1, m0, m1⟩ := hn; (try simp only [World.size_alloc] at n0 n1 m0 m1 hn))))
        | (go_at_call 18; refine (HS.out _).mono ?_; rintro e w' ⟨rfl, hb⟩; (try go_split_ands); have hp := PG.step (by assumption) hb; have hz := hp.size; (first | have hn := TN.step (by assumption) hb | have hn := TN.step (TN.new (by assumption) _ _ _) hb | have hn := TN.step (TN.drew (TN.new (by assumption) _ _ _)) hb | skip); (try (have ⟨_, _, n0, n1, m0, m1⟩ := hn; (try simp only [World.size_alloc] at n0 n1 m0 m1 hn)))))
    all_goals
      go_wp2_with fail
      go_meet
      case rel => exact ⟨_, rfl, rfl, by (try go_split_ands); assumption, by first | exact TN.put (by assumption) _ _ | exact TN.new (by assumption) _ _ _⟩
  case rest =>
    obtain ⟨g, rfl, rfl, hp, hn⟩ := hcut
    have ht0 := PT.start hp hn
    clear hp hn hp0 hs0
    have hs0 := ht0.size
    have hs1 := ht0.low
    go_wp2_with fail
    go_cut [7, 8] (fun p q wr => ∃ k, p = .pointer (some ⟨k, 0, none⟩) ∧ q = .bool r ∧ PT a b c d (.int .i64 X) (.int .i64 Y) g wc.heap.size w wr ∧ TN wc.heap.size (.int .i64 X) (.int .i64 Y) k wr)
    case first =>
      go_region_held3 (fun w' => PT a b c d (.int .i64 X) (.int .i64 Y) g wc.heap.size w w' ∧ w'.cell? ⟨w.heap.size, 0, none⟩ = some (.int .i64 a) ∧ w'.cell? ⟨w.heap.size, 1, none⟩ = some (.int .i64 b) ∧ w'.cell? ⟨w.heap.size + 1, 0, none⟩ = some (.int .i64 c) ∧ w'.cell? ⟨w.heap.size + 1, 1, none⟩ = some (.int .i64 d))
        (first
          | exact PT.all (by assumption)
          | exact PT.all (PT.drew (by assumption))
          | exact PT.all (PT.alloc (by assumption) _)
          | exact PT.all (PT.drew (PT.alloc (by assumption) _))
          | exact PT.all (PT.set (PT.set (by assumption) (by omega) _) (by omega) _)
          | exact PT.all (PT.drew (PT.set (PT.set (by assumption) (by omega) _) (by omega) _)))
        (first
          | (go_at_call 16; refine (toGauss_any _ _ _).mono ?_; rintro e w' ⟨rfl, hb⟩; (try go_split_ands); have hp := PT.step (by assumption) hb; have hz := hp.size; (first | have hn := TN.step (B := wc.heap.size) (by assumption) hb | have hn := TN.step (B := wc.heap.size) (TN.new (by assumption) _ _ _) hb | have hn := TN.step (B := wc.heap.size) (TN.drew (TN.new (by assumption) _ _ _)) hb | skip); (try (have ⟨_, _, n0, n1, m0, m1⟩ := hn; (try simp only [World.size_alloc] at n0 n1 m0 m1 hn))))
          | (go_at_call 19; refine (HI.out _).mono ?_; rintro e w' ⟨rfl, hb⟩; (try go_split_ands); have hp := PT.step (by assumption) hb; have hz := hp.size; (first | have hn := TN.step (B := wc.heap.size) (by assumption) hb | have hn := TN.step (B := wc.heap.size) (TN.new (by assumption) _ _ _) hb | have hn := TN.step (B := wc.heap.size) (TN.drew (TN.new (by assumption) _ _ _)) hb | skip); (try (have ⟨_, _, n0, n1, m0, m1⟩ := hn; (try simp only [World.size_alloc] at n0 n1 m0 m1 hn)))))
      all_goals
        go_wp2_with fail
        go_meet
        case rel => exact ⟨_, rfl, rfl, by (try go_split_ands); assumption, by first | exact TN.put (by assumption) _ _ | exact TN.new (by assumption) _ _ _⟩
    case rest =>
      obtain ⟨k, rfl, rfl, hp, hn⟩ := hcut
      have ⟨_, _, n0, n1, m0, m1⟩ := hn
      have ⟨_, _, n2, n3, m2, m3⟩ := hp.tn
      have hB := hp.pg.below
      go_wp2_with fail
      refine (eqGauss_same X Y _).mono ?_
      rintro e w5 ⟨rfl, hb5⟩
      have hB5 := joins hB hb5
      go_wp2_with fail
      go_returns
      exact ⟨rfl, hB5⟩
set_option maxRecDepth 100000 in
set_option maxHeartbeats 4000000 in
theorem timesGauss_walk (a b c d X Y : Int) (r : Bool) (w : World)
    (hs : ∀ w : World, Calls Try.prog 21 #[.agg #[.int .i64 a, .int .i64 b], .agg #[.int .i64 c, .int .i64 d]] w (Ret w (.tuple #[.agg #[.int .i64 X, .int .i64 Y], .bool r])))
    (hi : ∀ w : World, Calls Try.prog 22 #[.agg #[.int .i64 a, .int .i64 b], .agg #[.int .i64 c, .int .i64 d]] w (Ret w (.tuple #[.agg #[.int .i64 X, .int .i64 Y], .bool r]))) :
    Calls Try.prog 5 #[.agg #[.int .i64 a, .int .i64 b], .agg #[.int .i64 c, .int .i64 d]] w (Ret w (.bool true)) := by
  have HS := Lib.hid hs
  have HI := Lib.hid hi
  clear hs hi
  have hp0 := PG.start a b c d w 23 23
  have hs0 := hp0.size
  go_enter Try.func5, Try.ntmps5
  go_wp2_with fail
  go_cut [5, 6] (fun p q wr => ∃ g, p = .pointer (some ⟨g, 0, none⟩) ∧ q = .bool r ∧ PG a b c d w wr ∧ TN (w.heap.size + 2) (.int .i64 X) (.int .i64 Y) g wr)
  case first =>
    go_region_held3 (fun w' => PG a b c d w w' ∧ w'.cell? ⟨w.heap.size, 0, none⟩ = some (.int .i64 a) ∧ w'.cell? ⟨w.heap.size, 1, none⟩ = some (.int .i64 b) ∧ w'.cell? ⟨w.heap.size + 1, 0, none⟩ = some (.int .i64 c) ∧ w'.cell? ⟨w.heap.size + 1, 1, none⟩ = some (.int .i64 d))
      (first
        | exact PG.all (by assumption)
        | exact PG.all (PG.drew (by assumption))
        | exact PG.all (PG.alloc (by assumption) _)
        | exact PG.all (PG.drew (PG.alloc (by assumption) _))
        | exact PG.all (PG.set (PG.set (by assumption) (by omega) _) (by omega) _)
        | exact PG.all (PG.drew (PG.set (PG.set (by assumption) (by omega) _) (by omega) _)))
      (first
        | (go_at_call 16; refine (toGauss_any _ _ _).mono ?_; rintro e w' ⟨rfl, hb⟩; (try go_split_ands); have hp := PG.step (by assumption) hb; have hz := hp.size; (first | have hn := TN.step (by assumption) hb | have hn := TN.step (TN.new (by assumption) _ _ _) hb | have hn := TN.step (TN.drew (TN.new (by assumption) _ _ _)) hb | skip); (try (have ⟨_, _, n0, n1, m0, m1⟩ := hn; (try simp only [World.size_alloc] at n0 n1 m0 m1 hn))))
        | (go_at_call 21; refine (HS.out _).mono ?_; rintro e w' ⟨rfl, hb⟩; (try go_split_ands); have hp := PG.step (by assumption) hb; have hz := hp.size; (first | have hn := TN.step (by assumption) hb | have hn := TN.step (TN.new (by assumption) _ _ _) hb | have hn := TN.step (TN.drew (TN.new (by assumption) _ _ _)) hb | skip); (try (have ⟨_, _, n0, n1, m0, m1⟩ := hn; (try simp only [World.size_alloc] at n0 n1 m0 m1 hn)))))
    all_goals
      go_wp2_with fail
      go_meet
      case rel => exact ⟨_, rfl, rfl, by (try go_split_ands); assumption, by first | exact TN.put (by assumption) _ _ | exact TN.new (by assumption) _ _ _⟩
  case rest =>
    obtain ⟨g, rfl, rfl, hp, hn⟩ := hcut
    have ht0 := PT.start hp hn
    clear hp hn hp0 hs0
    have hs0 := ht0.size
    have hs1 := ht0.low
    go_wp2_with fail
    go_cut [7, 8] (fun p q wr => ∃ k, p = .pointer (some ⟨k, 0, none⟩) ∧ q = .bool r ∧ PT a b c d (.int .i64 X) (.int .i64 Y) g wc.heap.size w wr ∧ TN wc.heap.size (.int .i64 X) (.int .i64 Y) k wr)
    case first =>
      go_region_held3 (fun w' => PT a b c d (.int .i64 X) (.int .i64 Y) g wc.heap.size w w' ∧ w'.cell? ⟨w.heap.size, 0, none⟩ = some (.int .i64 a) ∧ w'.cell? ⟨w.heap.size, 1, none⟩ = some (.int .i64 b) ∧ w'.cell? ⟨w.heap.size + 1, 0, none⟩ = some (.int .i64 c) ∧ w'.cell? ⟨w.heap.size + 1, 1, none⟩ = some (.int .i64 d))
        (first
          | exact PT.all (by assumption)
          | exact PT.all (PT.drew (by assumption))
          | exact PT.all (PT.alloc (by assumption) _)
          | exact PT.all (PT.drew (PT.alloc (by assumption) _))
          | exact PT.all (PT.set (PT.set (by assumption) (by omega) _) (by omega) _)
          | exact PT.all (PT.drew (PT.set (PT.set (by assumption) (by omega) _) (by omega) _)))
        (first
          | (go_at_call 16; refine (toGauss_any _ _ _).mono ?_; rintro e w' ⟨rfl, hb⟩; (try go_split_ands); have hp := PT.step (by assumption) hb; have hz := hp.size; (first | have hn := TN.step (B := wc.heap.size) (by assumption) hb | have hn := TN.step (B := wc.heap.size) (TN.new (by assumption) _ _ _) hb | have hn := TN.step (B := wc.heap.size) (TN.drew (TN.new (by assumption) _ _ _)) hb | skip); (try (have ⟨_, _, n0, n1, m0, m1⟩ := hn; (try simp only [World.size_alloc] at n0 n1 m0 m1 hn))))
          | (go_at_call 22; refine (HI.out _).mono ?_; rintro e w' ⟨rfl, hb⟩; (try go_split_ands); have hp := PT.step (by assumption) hb; have hz := hp.size; (first | have hn := TN.step (B := wc.heap.size) (by assumption) hb | have hn := TN.step (B := wc.heap.size) (TN.new (by assumption) _ _ _) hb | have hn := TN.step (B := wc.heap.size) (TN.drew (TN.new (by assumption) _ _ _)) hb | skip); (try (have ⟨_, _, n0, n1, m0, m1⟩ := hn; (try simp only [World.size_alloc] at n0 n1 m0 m1 hn)))))
      all_goals
        go_wp2_with fail
        go_meet
        case rel => exact ⟨_, rfl, rfl, by (try go_split_ands); assumption, by first | exact TN.put (by assumption) _ _ | exact TN.new (by assumption) _ _ _⟩
    case rest =>
      obtain ⟨k, rfl, rfl, hp, hn⟩ := hcut
      have ⟨_, _, n0, n1, m0, m1⟩ := hn
      have ⟨_, _, n2, n3, m2, m3⟩ := hp.tn
      have hB := hp.pg.below
      go_wp2_with fail
      refine (eqGauss_same X Y _).mono ?_
      rintro e w5 ⟨rfl, hb5⟩
      have hB5 := joins hB hb5
      go_wp2_with fail
      go_returns
      exact ⟨rfl, hB5⟩
end Go.Proofs.Ytkkcdabcoafflaa
