/- The laws' copies, sizes, comparisons and marks of lists of lists. Conditions: the lists' cells are in memory. -/
import Derived.Test.YtciodcknobccdaaDoorSbH
import Derived.Test.YtciodcknobccdaaDoorRectsOpen
namespace Go.Proofs.YtciodcknobccdaaDoor
open Go.RowKit Go.Shelf Go.ChangeShapes Go.WideShapes Go.Deep
set_option linter.unusedVariables false
set_option linter.unusedSimpArgs false
attribute [local go_sem ↓] Go.wp_at_zero Go.wp_at_succ

/-- A list of lists as a law is given it. -/
def ListsAt (B : Nat) (w : World) (m : Option Addr) (k : Nat) (a : Nat → Option Addr) (n c : Nat → Nat) (P Q R S : Nat → Nat → Int) : Prop :=
  ∀ i, i < k → (∃ b off, m = some ⟨b, off, none⟩ ∧ b < B ∧ w.cell? ⟨b, off + i, none⟩ = some (.slice (a i) (n i) (c i))) ∧ n i ≤ maxLen ∧ RectsIs B w (a i) (n i) (P i) (Q i) (R i) (S i)
theorem ListsAt.below {B : Nat} {w w' : World} {m : Option Addr} {k : Nat} {a : Nat → Option Addr} {n c : Nat → Nat} {P Q R S : Nat → Nat → Int} (h : ListsAt B w m k a n c P Q R S) (hb : Below B w w') : ListsAt B w' m k a n c P Q R S := fun i hi => by
  obtain ⟨⟨b, off, h1, h2, h3⟩, h4, h6⟩ := h i hi
  exact ⟨⟨b, off, h1, h2, (hb.cell (p := ⟨b, off + i, none⟩) h2).trans h3⟩, h4, h6.below hb⟩

theorem ListsAt.mono {B C : Nat} {w : World} {m : Option Addr} {k : Nat} {a : Nat → Option Addr} {n c : Nat → Nat} {P Q R S : Nat → Nat → Int} (h : ListsAt B w m k a n c P Q R S) (hBC : B ≤ C) : ListsAt C w m k a n c P Q R S := fun i hi => by
  obtain ⟨⟨b, off, h1, h2, h3⟩, h4, h6⟩ := h i hi
  exact ⟨⟨b, off, h1, Nat.lt_of_lt_of_le h2 hBC, h3⟩, h4, h6.mono hBC⟩
theorem lists_open {H : Type} {enc : TypeId × Value → H} {W : World} {fuel : Nat} {a : Option Addr} {len cap : Nat} {x : DataW H × List MemPlace}
    (hf : DataW.trod enc Tryd.prog W 0 (fun _ => true) true fuel 61 (Value.slice a len cap).cells.toList = some x) : len ≤ maxLen ∧ ∃ (a' : Nat → Option Addr) (n c : Nat → Nat) (P Q R S : Nat → Nat → Int), ListsAt W.heap.size W a len a' n c P Q R S := by
  have c2 : Tryd.prog.cellsOf 103 = 1 := by kernel_rfl
  rcases open_slice Tryd.underlying61 hf with ⟨hcs, _⟩ | ⟨ad, l, c, m, nn, D, Pl, hcs, hb, hl, hm, hmm, _, hi⟩
  · simp [Value.cells] at hcs
    obtain ⟨rfl, rfl, rfl⟩ := hcs
    exact ⟨Nat.zero_le _, fun _ => none, fun _ => 0, fun _ => 0, fun _ _ => 0, fun _ _ => 0, fun _ _ => 0, fun _ _ => 0, fun k hk => absurd hk (by omega)⟩
  · simp [Value.cells] at hcs
    obtain ⟨rfl, rfl, rfl⟩ := hcs
    simp at hmm
    rw [c2] at hi
    obtain ⟨V, hV⟩ := choose_lt (α := Option Addr × Nat × Nat × (Nat → Int) × (Nat → Int) × (Nat → Int) × (Nat → Int)) (n := len) (p := fun i v => (∃ b off : Nat, some ad = some ⟨b, off, none⟩ ∧ b < W.heap.size ∧ W.cell? ⟨b, off + i, none⟩ = some (.slice v.1 v.2.1 v.2.2.1)) ∧ v.2.1 ≤ maxLen ∧ RectsIs W.heap.size W v.1 v.2.1 v.2.2.2.1 v.2.2.2.2.1 v.2.2.2.2.2.1 v.2.2.2.2.2.2) (fun i hil => by
      have hi0 := hi 0 (by omega)
      obtain ⟨cs0, hc0, _⟩ := hi0
      obtain ⟨cs', hc, ht⟩ := hi i (by omega)
      obtain ⟨_, hcl0, hat0⟩ := World.cells?_some hc0
      obtain ⟨_, hcl, hat⟩ := World.cells?_some hc
      have hz := hat0 0 (by omega)
      rw [List.getElem?_eq_getElem (by omega)] at hz
      simp [Addr.add] at hz
      have hsp : ad.spot = none := Go.Proofs.cell_spot hz
      obtain ⟨b, off, sp⟩ := ad
      obtain rfl : sp = none := hsp
      match cs', hcl with
      | [v0], _ =>
        have e0 := hat 0 (by omega)
        rw [Go.Deep.add_add, addNk'] at e0
        simp at e0
        rcases DataW.trod_slice Tryd.underlying103 ht with ⟨hcs, _⟩ | ⟨a1, l1, c1, _, _, _, _, hcs, _⟩
        · obtain rfl : v0 = .slice none 0 0 := by simpa using hcs
          exact ⟨(none, 0, 0, fun _ => 0, fun _ => 0, fun _ => 0, fun _ => 0), ⟨b, off, rfl, World.block_lt_of_cell? W ⟨b, off + i, none⟩ e0, e0⟩, Nat.zero_le _, fun k hk => absurd hk (by simp)⟩
        · obtain rfl : v0 = .slice (some a1) l1 c1 := by simpa using hcs
          obtain ⟨hml, P, Q, R, S, hr⟩ := rects_open (a := some a1) (len := l1) (cap := c1) (by simpa [Value.cells] using ht)
          exact ⟨(some a1, l1, c1, P, Q, R, S), ⟨b, off, rfl, World.block_lt_of_cell? W ⟨b, off + i, none⟩ e0, e0⟩, hml, hr⟩)
    exact ⟨by omega, fun i => (V i).1, fun i => (V i).2.1, fun i => (V i).2.2.1, fun i => (V i).2.2.2.1, fun i => (V i).2.2.2.2.1, fun i => (V i).2.2.2.2.2.1, fun i => (V i).2.2.2.2.2.2, fun i hi => hV i hi⟩

/-- The lengths' sum. -/
def sumN (n : Nat → Nat) : Nat → Nat
  | 0 => 0
  | i + 1 => sumN n i + n i
theorem sumN_le (n : Nat → Nat) : ∀ k i, i < k → n i ≤ sumN n k
  | 0, i, h => by omega
  | k + 1, i, h => by
    rw [sumN]
    by_cases e : i = k
    · subst e; omega
    · have := sumN_le n k i (by omega); omega
theorem sumN_mono (n : Nat → Nat) {i k : Nat} (h : i ≤ k) : sumN n i ≤ sumN n k := by
  induction k with
  | zero => obtain rfl : i = 0 := by omega
            exact Nat.le_refl _
  | succ k ih =>
    by_cases e : i = k + 1
    · rw [e]; exact Nat.le_refl _
    · have := ih (by omega)
      rw [sumN]; omega
set_option maxRecDepth 100000 in
set_option maxHeartbeats 4000000 in
theorem szRectSS_any (m : Option Addr) (k kc : Nat) (a : Nat → Option Addr) (n c : Nat → Nat) (P Q R S : Nat → Nat → Int) (w : World) (hk : k ≤ maxLen) (hL : ListsAt w.heap.size w m k a n c P Q R S) :
    Calls Tryd.prog 37 #[.slice m k kc, .int .i64 1048576] w fun e w' => (∃ v : Int, e = .returned (.int .i64 v) ∧ (0 ≤ v → k + sumN n k ≤ 1048576)) ∧ w = w' := by
  unfold maxLen at hk
  have HL := Lib.hid hL
  clear hL
  by_cases h1 : k ≤ 1048576
  · have q1 : ¬ ((1048576 : Int) - (k : Int) < 0) := by omega
    go_enter Tryd.func37, Tryd.ntmps37
    go_wp2_with fail
    go_loopw [1, 5] (fun s1 s5 wr => ∃ (i : Nat) (v : Int), i ≤ k ∧ s1 = .int .i64 v ∧ s5 = .int .i64 (i : Nat) ∧ 0 ≤ v ∧ Hid (v + k + (sumN n i : Nat) = 1048576) ∧ w = wr) (fun _ s5 _ => k - (intOf s5).toNat)
    case atStart => exact ⟨0, _, by omega, rfl, rfl, by omega, Lib.hid (by rw [sumN]; omega), rfl⟩
    case round =>
      obtain ⟨i, v, hik, rfl, rfl, hv, HV, rfl⟩ := hrel
      by_cases hlt : i < k
      · obtain ⟨⟨b, off, rfl, hb, hc⟩, hn1, hR1⟩ := HL.out i hlt
        have q3 : ((i : Nat) : Int) < (k : Int) := by omega
        have q0 : (0 : Int) ≤ ((i : Nat) : Int) := by omega
        have v1 : v ≤ 1048576 := by have := HV.out; omega
        have hs1 : sumN n (i + 1) = sumN n i + n i := rfl
        by_cases hf : (n i : Int) ≤ v
        · have HV1 : Hid (v - (n i : Int) + k + (sumN n (i + 1) : Nat) = 1048576) := Lib.hid (by have := HV.out; omega)
          have q4 : ¬ v - (n i : Int) < 0 := by omega
          clear hR1
          go_wp2_with (first | (go_at_call 70; refine (szRectS_any (a i) (n i) (c i) v _ hv v1 hn1).mono ?_; rintro e w3 ⟨rfl, rfl⟩; rw [if_pos hf]))
          go_roundw
          case rel => exact ⟨i + 1, v - n i, by omega, rfl, by go_num, by omega, HV1, by trivial⟩
          case measure => simp [intOf]; omega
        · clear hR1
          go_wp2_with (first | (go_at_call 70; refine (szRectS_any (a i) (n i) (c i) v _ hv v1 hn1).mono ?_; rintro e w3 ⟨rfl, rfl⟩; rw [if_neg hf]))
          go_ret
          exact ⟨⟨-1, rfl, fun h => by omega⟩, rfl⟩
      · have q3 : ¬ ((i : Nat) : Int) < (k : Int) := by omega
        obtain rfl : i = k := by omega
        go_wp2_with fail
        go_ret
        exact ⟨⟨v, rfl, fun _ => by have := HV.out; omega⟩, rfl⟩
  · have q1 : (1048576 : Int) - (k : Int) < 0 := by omega
    go_enter Tryd.func37, Tryd.ntmps37
    go_wp2_with fail
    go_ret
    exact ⟨⟨-1, rfl, fun h => by omega⟩, rfl⟩
set_option maxRecDepth 100000 in
set_option maxHeartbeats 4000000 in
theorem eqRectSS_any (m m' : Option Addr) (k kc kc' : Nat) (a a' : Nat → Option Addr) (n c c' : Nat → Nat) (P Q R S : Nat → Nat → Int) (w : World) (hk : k ≤ 1048576) (hL : ListsIs w.heap.size w m k a n c P Q R S) (hL' : ListsIs w.heap.size w m' k a' n c' P Q R S) :
    Calls Tryd.prog 41 #[.slice m k kc, .slice m' k kc'] w fun e w' => e = .returned (.bool true) ∧ Below w.heap.size w w' := by
  have HL := Lib.hid hL
  have HL' := Lib.hid hL'
  clear hL hL'
  go_enter Tryd.func41, Tryd.ntmps41
  go_wp2_with fail
  go_loopw [5] (fun s5 wr => ∃ i : Nat, i ≤ k ∧ s5 = .int .i64 (i : Nat) ∧ Below w.heap.size w wr) (fun s5 _ => k - (intOf s5).toNat)
  case atStart => exact ⟨0, by omega, rfl, Below.refl _ _⟩
  case round =>
    obtain ⟨i, hik, rfl, hW⟩ := hrel
    by_cases hlt : i < k
    · obtain ⟨⟨b, off, rfl, hb, hc⟩, hn1, hc1, hR1⟩ := (HL.out.below hW) i hlt
      obtain ⟨⟨b', off', rfl, hb', hc'⟩, hn1', hc1', hR1'⟩ := (HL'.out.below hW) i hlt
      have q3 : ((i : Nat) : Int) < (k : Int) := by omega
      have q0 : (0 : Int) ≤ ((i : Nat) : Int) := by omega
      have HR1 := Lib.hid (hR1.mono hW.size)
      have HR1' := Lib.hid (hR1'.mono hW.size)
      clear hR1 hR1'
      go_upto_region 6 with fail
      go_still_tail 8, (by kernel_rfl)
      change wpList _ _ _ _ _ wr.drew
      obtain ⟨wd, hwd⟩ : ∃ wd, wd = wr.drew := ⟨_, rfl⟩
      have Bd : Below wr.heap.size wr wd := by rw [hwd]; exact (Below.refl _ _).drew
      rw [← hwd]
      clear hwd
      go_wp2_with fail
      refine (eqRectS_any (a i) (a' i) (n i) (c i) (c' i) (P i) (Q i) (R i) (S i) _ hn1 (HR1.out.ext Bd) (HR1'.out.ext Bd)).mono ?_
      rintro e w3 ⟨rfl, bw3⟩
      have B3 := Ext.trans (Ext.trans hW Bd) bw3
      go_wp2_with fail
      go_roundw
      case rel => exact ⟨i + 1, by omega, by go_num, B3⟩
      case measure => simp [intOf]; omega
    · have q3 : ¬ ((i : Nat) : Int) < (k : Int) := by omega
      obtain rfl : i = k := by omega
      go_wp2_with fail
      go_ret
      exact ⟨rfl, hW⟩

/-- Lists in rows of their own. -/
structure OwnRows (B : Nat) (w : World) (h k : Nat) (g n : Nat → Nat) (P Q R S : Nat → Nat → Int) : Prop where
  low : B ≤ h
  lt : h < w.heap.size
  cell : ∀ i, i < k → w.cell? ⟨h, i, none⟩ = some (.slice (some ⟨g i, 0, none⟩) (n i) (n i))
  row : ∀ i, i < k → h < g i ∧ g i < w.heap.size ∧ RowR w (g i) (n i) (P i) (Q i) (R i) (S i)
  inj : ∀ i j, i < j → j < k → g i < g j
theorem OwnRows.below {B h k : Nat} {w w' : World} {g n : Nat → Nat} {P Q R S : Nat → Nat → Int} (o : OwnRows B w h k g n P Q R S) (hb : Below w.heap.size w w') : OwnRows B w' h k g n P Q R S :=
  ⟨o.low, Nat.lt_of_lt_of_le o.lt hb.size, fun i hi => (hb.cell (p := ⟨h, i, none⟩) o.lt).trans (o.cell i hi), fun i hi => ⟨(o.row i hi).1, Nat.lt_of_lt_of_le (o.row i hi).2.1 hb.size, (o.row i hi).2.2.below hb (o.row i hi).2.1⟩, o.inj⟩
theorem OwnRows.lists {B h k : Nat} {w : World} {g n : Nat → Nat} {P Q R S : Nat → Nat → Int} (o : OwnRows B w h k g n P Q R S) (hn : ∀ i, i < k → n i ≤ 1048576) : ListsIs w.heap.size w (some ⟨h, 0, none⟩) k (fun i => some ⟨g i, 0, none⟩) n n P Q R S := fun i hi =>
  ⟨⟨h, 0, rfl, o.lt, by rw [Nat.zero_add]; exact o.cell i hi⟩, hn i hi, Nat.le_refl _, (o.row i hi).2.2.rects⟩
theorem Wr.kept {g : Nat} {w w' : World} (h : Wr g w w') : Kept (fun b => b = g) w w' := ⟨h.os, h.tape, h.output, h.size, fun k hk hne => h.block k hk (fun e => hne (Option.some.inj e))⟩
theorem infoS : (Tryd.prog.info? 105).map (fun i => (i.zero, i.size, i.bytes)) = some (some (.slice none 0 0), 1, 24) := by kernel_rfl
theorem madeS (n j : Nat) (h : j < n) : (madeCells (Value.slice none 0 0).cells n).toList[j]? = some (.slice none 0 0) := by
  have e : (Value.slice none 0 0).cells = #[.slice none 0 0] := rfl
  rw [e]
  simp only [madeCells, Array.getElem?_toList, Array.getElem?_map]
  rw [Array.getElem?_eq_getElem (by simpa using h)]
  simp only [Option.map_some, Array.getElem_range]
  simp [Nat.mod_one]
def updN (g : Nat → Nat) (i v : Nat) : Nat → Nat := fun j => if j = i then v else g j
theorem updN_same (g : Nat → Nat) (i v : Nat) : updN g i v i = v := by simp [updN]
theorem updN_other (g : Nat → Nat) {i v j : Nat} (h : j ≠ i) : updN g i v j = g j := by simp [updN, h]
/-- A call that hands back lists in rows of their own. -/
def RowsRes (B k : Nat) (n : Nat → Nat) (P Q R S : Nat → Nat → Int) (e : Ending) (w : World) : Prop := ∃ (h : Nat) (g : Nat → Nat), e = .returned (.slice (some ⟨h, 0, none⟩) k k) ∧ OwnRows B w h k g n P Q R S
set_option maxRecDepth 100000 in
set_option maxHeartbeats 4000000 in
theorem toRectSS_any (m : Option Addr) (k kc : Nat) (a : Nat → Option Addr) (n c : Nat → Nat) (P Q R S : Nat → Nat → Int) (w : World) (hk : k ≤ 1048576) (hn : ∀ i, i < k → n i ≤ 1048576) (hL : ListsAt w.heap.size w m k a n c P Q R S) :
    Calls Tryd.prog 39 #[.slice m k kc] w fun e w' => RowsRes w.heap.size k n P Q R S e w' ∧ Below w.heap.size w w' := by
  have HL := Lib.hid hL
  clear hL
  obtain ⟨i0, hi, hz0, hz1, hz2⟩ := info_parts infoS
  go_enter Tryd.func39, Tryd.ntmps39
  go_wp2_with (at_make; refine wpList_make_full _ rfl _ _ 64 rfl w.heap.size 105 i0 (.slice none 0 0) 1 Tryd.underlying64 hi hz0 hz1 .i64 .i64 k k k rfl rfl rfl rfl (by rw [hz2]; omega) (by unfold maxLen; omega) (Nat.le_refl _) ?_; intro w1 own1 grow1)
  have hB1 : Below w.heap.size w w1 := (Below.refl _ _).grown grow1 (Nat.le_refl _) (fun k hk => by cases hk)
  have hlt1 := (own1.lt w.heap.size rfl).2
  have HC : Hid (∀ j, j < k → w1.cell? ⟨w.heap.size, j, none⟩ = some (.slice none 0 0) ∧ w1.frozen? ⟨w.heap.size, j, none⟩ = false) := Lib.hid fun j hj => by
    refine ⟨?_, own1.frozenAt _⟩
    rw [own1.cellAt _ (by omega)]
    exact madeS _ _ (by omega)
  clear own1 grow1 hi hz0 hz1 hz2
  go_wp2_with fail
  go_loopw [4] (fun s4 wr => ∃ (i : Nat) (g : Nat → Nat), i ≤ k ∧ s4 = .int .i64 (i : Nat) ∧ w.heap.size < wr.heap.size ∧ Below w.heap.size w wr ∧ Hid (OwnRows w.heap.size wr w.heap.size i g n P Q R S) ∧ Hid (∀ j, j < k → (∃ v, wr.cell? ⟨w.heap.size, j, none⟩ = some v) ∧ wr.frozen? ⟨w.heap.size, j, none⟩ = false)) (fun s4 _ => k - (intOf s4).toNat)
  case atStart => exact ⟨0, fun _ => 0, by omega, rfl, hlt1, hB1, Lib.hid ⟨Nat.le_refl _, hlt1, fun i hi => by omega, fun i hi => by omega, fun i j _ hj => by omega⟩, Lib.hid fun j hj => ⟨⟨_, (HC.out j hj).1⟩, (HC.out j hj).2⟩⟩
  case round =>
    obtain ⟨i, g, hik, rfl, hsz, hW, HO, HF⟩ := hrel
    by_cases hlt : i < k
    · obtain ⟨⟨b, off, rfl, hb, hc⟩, hn1, hR1⟩ := (HL.out.below hW) i hlt
      have q3 : ((i : Nat) : Int) < (k : Int) := by omega
      have q0 : (0 : Int) ≤ ((i : Nat) : Int) := by omega
      have HR1 := Lib.hid (hR1.mono hW.size)
      clear hR1
      go_wp2_with fail
      refine (toRectS_row (a i) (n i) (c i) (P i) (Q i) (R i) (S i) _ (hn i hlt) HR1.out).mono ?_
      rintro e w3 ⟨g3, ga3, gb3, rfl, bw3, X3⟩
      have X3 := Lib.hid X3
      have HO3 := Lib.hid (HO.out.below bw3)
      obtain ⟨⟨v, hv⟩, hfz⟩ := HF.out i hlt
      have hv3 := (bw3.cell (p := ⟨w.heap.size, i, none⟩) hsz).trans hv
      have hf3 := (bw3.frozen (p := ⟨w.heap.size, i, none⟩) hsz).trans hfz
      have HF3 : Hid (∀ j, j < k → (∃ v, w3.cell? ⟨w.heap.size, j, none⟩ = some v) ∧ w3.frozen? ⟨w.heap.size, j, none⟩ = false) := Lib.hid fun j hj => by
        obtain ⟨⟨u, hu⟩, hfj⟩ := HF.out j hj
        exact ⟨⟨u, (bw3.cell (p := ⟨w.heap.size, j, none⟩) hsz).trans hu⟩, (bw3.frozen (p := ⟨w.heap.size, j, none⟩) hsz).trans hfj⟩
      have l3 := bw3.size
      have B3 := Ext.trans hW bw3
      clear bw3 hv hfz
      go_wp2_with fail
      have hother : ∀ b, b ≠ w.heap.size → (w3.setCell ⟨w.heap.size, i, none⟩ (.slice (some ⟨g3, 0, none⟩) (n i) (n i))).heap[b]? = w3.heap[b]? := fun b hb => Below.heap_setCell _ _ _ _ (by simpa using hb)
      have hsame : (w3.setCell ⟨w.heap.size, i, none⟩ (.slice (some ⟨g3, 0, none⟩) (n i) (n i))).cell? ⟨w.heap.size, i, none⟩ = some (.slice (some ⟨g3, 0, none⟩) (n i) (n i)) := World.cell?_setCell_same _ _ _ hv3
      have hcells : ∀ j, j ≠ i → (w3.setCell ⟨w.heap.size, i, none⟩ (.slice (some ⟨g3, 0, none⟩) (n i) (n i))).cell? ⟨w.heap.size, j, none⟩ = w3.cell? ⟨w.heap.size, j, none⟩ := fun j hj => World.cell?_setCell_other _ _ _ _ (by simp <;> omega)
      have hrows : ∀ (b len : Nat) (P Q R S : Nat → Int), b ≠ w.heap.size → RowR w3 b len P Q R S → RowR (w3.setCell ⟨w.heap.size, i, none⟩ (.slice (some ⟨g3, 0, none⟩) (n i) (n i))) b len P Q R S := fun b len P Q R S hb hr t ht => by
        obtain ⟨⟨c0, c1, c2, c3⟩, f0, f1, f2, f3⟩ := hr t ht
        have e := hother b hb
        exact ⟨⟨(World.cell?_of_block (w := w3) (a := ⟨b, t * 4, none⟩) e).trans c0, (World.cell?_of_block (w := w3) (a := ⟨b, t * 4 + 1, none⟩) e).trans c1, (World.cell?_of_block (w := w3) (a := ⟨b, t * 4 + 2, none⟩) e).trans c2, (World.cell?_of_block (w := w3) (a := ⟨b, t * 4 + 3, none⟩) e).trans c3⟩, (World.frozen?_of_block (w := w3) (a := ⟨b, t * 4, none⟩) e).trans f0, (World.frozen?_of_block (w := w3) (a := ⟨b, t * 4 + 1, none⟩) e).trans f1, (World.frozen?_of_block (w := w3) (a := ⟨b, t * 4 + 2, none⟩) e).trans f2, (World.frozen?_of_block (w := w3) (a := ⟨b, t * 4 + 3, none⟩) e).trans f3⟩
      have HO4 : Hid (OwnRows w.heap.size (w3.setCell ⟨w.heap.size, i, none⟩ (.slice (some ⟨g3, 0, none⟩) (n i) (n i))) w.heap.size (i + 1) (updN g i g3) n P Q R S) := Lib.hid ⟨Nat.le_refl _, by simp; omega, fun j hj => by
          by_cases e : j = i
          · subst e; rw [updN_same]; exact hsame
          · rw [updN_other g e, hcells j e]; exact HO3.out.cell j (by omega),
        fun j hj => by
          by_cases e : j = i
          · subst e; rw [updN_same]; exact ⟨by omega, by simp; omega, hrows _ _ _ _ _ _ (by omega) X3.out⟩
          · rw [updN_other g e]
            obtain ⟨u1, u2, u3⟩ := HO3.out.row j (by omega)
            exact ⟨u1, by simp; omega, hrows _ _ _ _ _ _ (by omega) u3⟩,
        fun j t hjt ht => by
          rw [updN_other g (show j ≠ i by omega)]
          by_cases e : t = i
          · subst e; rw [updN_same]
            have := (HO.out.row j hjt).2.1
            omega
          · rw [updN_other g e]; exact HO3.out.inj j t hjt (by omega)⟩
      have HF4 : Hid (∀ j, j < k → (∃ v, (w3.setCell ⟨w.heap.size, i, none⟩ (.slice (some ⟨g3, 0, none⟩) (n i) (n i))).cell? ⟨w.heap.size, j, none⟩ = some v) ∧ (w3.setCell ⟨w.heap.size, i, none⟩ (.slice (some ⟨g3, 0, none⟩) (n i) (n i))).frozen? ⟨w.heap.size, j, none⟩ = false) := Lib.hid fun j hj => by
        refine ⟨?_, by simpa using (HF3.out j hj).2⟩
        by_cases e : j = i
        · subst e; exact ⟨_, hsame⟩
        · rw [hcells j e]; exact (HF3.out j hj).1
      clear hother hsame hcells hrows
      go_roundw
      case rel => exact ⟨i + 1, updN g i g3, by omega, by go_num, by simp; omega, B3.setCell (Nat.le_refl _) _, HO4, HF4⟩
      case measure => simp [intOf]; omega
    · have q3 : ¬ ((i : Nat) : Int) < (k : Int) := by omega
      obtain rfl : i = k := by omega
      go_wp2_with fail
      go_ret
      exact ⟨⟨w.heap.size, g, rfl, HO.out⟩, hW⟩
end Go.Proofs.YtciodcknobccdaaDoor
