/- The model's flood: the part of a set that holds a cell. Conditions: the flags' cells are in memory; the cell is set. -/
import Derived.Test.YtepfnnhmplaocaaDoorCpA
import Derived.Test.YtepfnnhmplaocaaDoorQC
import Derived.Test.YtepfnnhmplaocaaDoorQJ
namespace Go.Proofs.YtepfnnhmplaocaaDoor
open Go.RowKit
set_option linter.unusedVariables false
set_option linter.unusedSimpArgs false
attribute [local go_sem ↓] Go.wp_at_zero Go.wp_at_succ

theorem infoPt : (Tryd.prog.info? 131).map (fun i => (i.zero, i.size, i.bytes)) = some (some (.agg #[.int .i64 0, .int .i64 0]), 2, 16) := by kernel_rfl
/-- The cells of a list of points. -/
def ptC (L : List (Int × Int)) : List Value := L.flatMap fun p => [.int .i64 p.1, .int .i64 p.2]
theorem ptC_snoc (L : List (Int × Int)) (p : Int × Int) : ptC (L ++ [p]) = ptC L ++ [.int .i64 p.1, .int .i64 p.2] := by unfold ptC; rw [List.flatMap_append]; simp
theorem ptC_len (L : List (Int × Int)) : (ptC L).length = L.length * 2 := by
  induction L with
  | nil => rfl
  | cons p l ih => unfold ptC at ih ⊢; rw [List.flatMap_cons, List.length_append, ih, List.length_cons]; simp; omega
theorem ptC_at : ∀ (L : List (Int × Int)) (i : Nat) (p : Int × Int), L[i]? = some p → (ptC L)[i * 2]? = some (.int .i64 p.1) ∧ (ptC L)[i * 2 + 1]? = some (.int .i64 p.2)
  | [], i, p, h => by simp at h
  | q :: L, 0, p, h => by
    obtain rfl : q = p := by simpa using h
    simp [ptC]
  | q :: L, i + 1, p, h => by
    have h' : L[i]? = some p := by simpa using h
    have ih := ptC_at L i p h'
    have e : ptC (q :: L) = [.int .i64 q.1, .int .i64 q.2] ++ ptC L := by simp [ptC]
    have l2 : ([.int .i64 q.1, .int .i64 q.2] : List Value).length = 2 := rfl
    rw [e]
    refine ⟨?_, ?_⟩ <;> rw [List.getElem?_append_right (by omega), l2]
    · rw [show (i + 1) * 2 - 2 = i * 2 by omega]; exact ih.1
    · rw [show (i + 1) * 2 + 1 - 2 = i * 2 + 1 by omega]; exact ih.2
theorem pts_next {W : World} {B : Nat} {v : Value} {n : Nat} {L : List (Int × Int)} {p : Int × Int} (hn : n = L.length) (h : W.ownsRow B 131 2 v (n + 1) (ptC L ++ [.int .i64 p.1, .int .i64 p.2])) :
    ∃ g cap, v = .slice (some ⟨g, 0, none⟩) (L ++ [p]).length cap ∧ W.ownsRow B 131 2 (.slice (some ⟨g, 0, none⟩) (L ++ [p]).length cap) (L ++ [p]).length (ptC (L ++ [p])) := by
  subst hn
  have e : (L ++ [p]).length = L.length + 1 := by simp
  rw [e, ptC_snoc]
  rcases h.2 with ⟨_, h0⟩ | ⟨g, cap, cur, rfl, _⟩
  · omega
  · exact ⟨g, cap, rfl, h⟩
theorem own_keepAt {W W' : World} {B e sz g m cap n : Nat} {xs : List Value} (h : W.ownsRow B e sz (.slice (some ⟨g, 0, none⟩) m cap) n xs) (hk : W'.heap[g]? = W.heap[g]?) : W'.ownsRow B e sz (.slice (some ⟨g, 0, none⟩) m cap) n xs := by
  refine ⟨h.1, ?_⟩
  rcases h.2 with ⟨h0, _⟩ | ⟨g', cap', cur, h1, h2, h3, h4⟩
  · cases h0
  · cases h1; exact .inr ⟨g, cap, cur, rfl, h2, hk.trans h3, h4⟩
theorem BitsIs.grown {W W' : World} {g : Nat} {F : Nat → Bool} {row : Option Nat} (h : BitsIs W g F) (hg : W.grownBy W' row) (hne : some g ≠ row) : BitsIs W' g F := fun i hi =>
  ⟨hg.cell (h i hi).1 hne, (World.frozen?_of_block (a := ⟨g, i, none⟩) (hg.block g h.lt hne)).trans (h i hi).2⟩

/-- What a flood has found: flags and points say the same. -/
structure Flood (f : Nat → Bool) (wide : Bool) (x y : Int) (F : Nat → Bool) (L : List (Int × Int)) : Prop where
  mem : ∀ p, p ∈ L → Conn f wide x y p.1 p.2
  flag : ∀ u v, (-40 ≤ u ∧ u ≤ 39) ∧ (-40 ≤ v ∧ v ≤ 39) → (F (cIx u v) = true ↔ (u, v) ∈ L)
  cnt : cntF F 6400 = (L.length : Int)
  st : (x, y) ∈ L
theorem Flood.len {f : Nat → Bool} {wide : Bool} {x y : Int} {F : Nat → Bool} {L : List (Int × Int)} (h : Flood f wide x y F L) : L.length ≤ 6400 := by
  have h1 := h.cnt
  have h2 := (cntF_bd F 6400).2
  omega
theorem cntF_zero : ∀ n, cntF (fun _ => false) n = 0
  | 0 => rfl
  | n + 1 => by rw [cntF, cntF_zero n]; rfl
theorem Flood.put {f : Nat → Bool} {wide : Bool} {x y : Int} {F : Nat → Bool} {L : List (Int × Int)} (h : Flood f wide x y F L) {u v : Int} (hc : Conn f wide x y u v) (hF : F (cIx u v) = false) : Flood f wide x y (fun i => F i || decide (i = cIx u v)) (L ++ [(u, v)]) := by
  have hh := hasB_chip hc.right
  refine ⟨fun p hp => ?_, fun a b hab => ?_, ?_, List.mem_append.2 (.inl h.st)⟩
  · rcases List.mem_append.1 hp with hp | hp
    · exact h.mem p hp
    · rw [List.mem_singleton.1 hp]; exact hc
  · rw [Bool.or_eq_true, h.flag a b hab, decide_eq_true_eq, List.mem_append, List.mem_singleton]
    constructor
    · rintro (k | k)
      · exact .inl k
      · obtain ⟨rfl, rfl⟩ := cIx_inj hab.1.1 hab.1.2 hab.2.1 hab.2.2 hh.1.1 hh.1.2 hh.2.1 hh.2.2 k
        exact .inr rfl
    · rintro (k | k)
      · exact .inl k
      · rw [Prod.mk.injEq] at k; rw [k.1, k.2]; exact .inr rfl
  · rw [cntF_put F _ hF 6400 (cIx_lt hh.1.1 hh.1.2 hh.2.1 hh.2.2), h.cnt, List.length_append]
    simp
theorem Flood.begin {f : Nat → Bool} {wide : Bool} {x y : Int} (h : hasB f x y = true) : Flood f wide x y (fun i => false || decide (i = cIx x y)) [(x, y)] := by
  have hh := hasB_chip h
  refine ⟨fun p hp => ?_, fun a b hab => ?_, ?_, by simp⟩
  · rw [List.mem_singleton.1 hp]; exact .start h
  · rw [Bool.false_or, decide_eq_true_eq, List.mem_singleton]
    constructor
    · intro k
      obtain ⟨rfl, rfl⟩ := cIx_inj hab.1.1 hab.1.2 hab.2.1 hab.2.2 hh.1.1 hh.1.2 hh.2.1 hh.2.2 k
      rfl
    · intro k; rw [Prod.mk.injEq] at k; rw [k.1, k.2]
  · rw [cntF_put (fun _ => false) _ rfl 6400 (cIx_lt hh.1.1 hh.1.2 hh.2.1 hh.2.2), cntF_zero]
    rfl
/-- All neighbours of p are flagged; those of the rows before b; and, of row b, those before column a. -/
def SeenB (f : Nat → Bool) (wide : Bool) (F : Nat → Bool) (p : Int × Int) : Prop := ∀ u v, adjC wide p.1 p.2 u v → hasB f u v = true → F (cIx u v) = true
def NbrV (f : Nat → Bool) (wide : Bool) (F : Nat → Bool) (p : Int × Int) (b : Int) : Prop := ∀ u v, adjC wide p.1 p.2 u v → hasB f u v = true → v < p.2 + b → F (cIx u v) = true
def NbrU (f : Nat → Bool) (wide : Bool) (F : Nat → Bool) (p : Int × Int) (b a : Int) : Prop := ∀ u v, adjC wide p.1 p.2 u v → hasB f u v = true → (v < p.2 + b ∨ v = p.2 + b ∧ u < p.1 + a) → F (cIx u v) = true
theorem NbrV.start {f : Nat → Bool} {wide : Bool} {F : Nat → Bool} {p : Int × Int} : NbrV f wide F p (-1) := fun u v h _ k => by have := h.2.1; omega
theorem NbrV.to {f : Nat → Bool} {wide : Bool} {F : Nat → Bool} {p : Int × Int} {b : Int} (h : NbrV f wide F p b) : NbrU f wide F p b (-1) := fun u v ha hh k => by
  rcases k with k | k
  · exact h u v ha hh k
  · have := ha.1; omega
theorem NbrU.to {f : Nat → Bool} {wide : Bool} {F : Nat → Bool} {p : Int × Int} {b : Int} (h : NbrU f wide F p b 2) : NbrV f wide F p (b + 1) := fun u v ha hh k => by
  refine h u v ha hh ?_
  have := ha.1
  omega
theorem NbrV.done {f : Nat → Bool} {wide : Bool} {F : Nat → Bool} {p : Int × Int} (h : NbrV f wide F p 2) : SeenB f wide F p := fun u v ha hh => h u v ha hh (by have := ha.2.1; omega)
theorem NbrU.step {f : Nat → Bool} {wide : Bool} {F : Nat → Bool} {p : Int × Int} {b a : Int} (h : NbrU f wide F p b a) (k : adjC wide p.1 p.2 (p.1 + a) (p.2 + b) → hasB f (p.1 + a) (p.2 + b) = true → F (cIx (p.1 + a) (p.2 + b)) = true) : NbrU f wide F p b (a + 1) := fun u v ha hh q => by
  by_cases e : v = p.2 + b ∧ u = p.1 + a
  · obtain ⟨rfl, rfl⟩ := e; exact k ha hh
  · exact h u v ha hh (by omega)
theorem NbrU.mono {f : Nat → Bool} {wide : Bool} {F G : Nat → Bool} {p : Int × Int} {b a : Int} (h : NbrU f wide F p b a) (k : ∀ i, F i = true → G i = true) : NbrU f wide G p b a := fun u v ha hh q => k _ (h u v ha hh q)
def SeenI (f : Nat → Bool) (wide : Bool) (F : Nat → Bool) (L : List (Int × Int)) (i : Nat) : Prop := ∀ j p, j < i → L[j]? = some p → SeenB f wide F p
theorem SeenI.put {f : Nat → Bool} {wide : Bool} {F G : Nat → Bool} {L : List (Int × Int)} {i : Nat} {q : Int × Int} (h : SeenI f wide F L i) (hi : i ≤ L.length) (k : ∀ i, F i = true → G i = true) : SeenI f wide G (L ++ [q]) i := fun j p hj hp u v ha hh => by
  rw [List.getElem?_append_left (by omega)] at hp
  exact k _ (h j p hj hp u v ha hh)
theorem SeenI.next {f : Nat → Bool} {wide : Bool} {F : Nat → Bool} {L : List (Int × Int)} {i : Nat} {p : Int × Int} (h : SeenI f wide F L i) (hp : L[i]? = some p) (hs : SeenB f wide F p) : SeenI f wide F L (i + 1) := fun j q hj hq => by
  by_cases e : j = i
  · subst e
    rw [hp] at hq
    obtain rfl := Option.some.inj hq
    exact hs
  · exact h j q (by omega) hq
/-- A flood whose points have all been looked at is the part. -/
theorem Flood.done {f : Nat → Bool} {wide : Bool} {x y : Int} {F : Nat → Bool} {L : List (Int × Int)} (h : Flood f wide x y F L) (hs : SeenI f wide F L L.length) (k : Nat) (hk : k < 6400) : F k = partF f wide x y k := by
  have hc := cIx_cN hk
  have key : ∀ u v, Conn f wide x y u v → (u, v) ∈ L := by
    intro u v c
    induction c with
    | start _ => exact h.st
    | @step u v p q c a b ih =>
      obtain ⟨j, hj⟩ := List.getElem?_of_mem ih
      exact (h.flag p q (hasB_chip b)).1 (hs j (u, v) ((List.getElem?_eq_some_iff.1 hj).1) hj p q a b)
  rw [Bool.eq_iff_iff, partF_t]
  have hf := h.flag (cxN k) (cyN k) hc.2
  rw [hc.1] at hf
  rw [hf]
  exact ⟨fun m => h.mem _ m, fun c => key _ _ c⟩
theorem Flood.at {f : Nat → Bool} {wide : Bool} {x y : Int} {F : Nat → Bool} {L : List (Int × Int)} (h : Flood f wide x y F L) {i : Nat} {p : Int × Int} (hp : L[i]? = some p) : Conn f wide x y p.1 p.2 ∧ (-40 ≤ p.1 ∧ p.1 ≤ 39) ∧ (-40 ≤ p.2 ∧ p.2 ≤ 39) := by
  have := h.mem p (List.mem_of_getElem? hp)
  exact ⟨this, hasB_chip this.right⟩

set_option maxHeartbeats 16000000 in
set_option maxRecDepth 100000 in
theorem l07Flood_any (g c : Nat) (f : Nat → Bool) (x y : Int) (wide : Bool) (w : World) (hB : BitsIs w g f) (hx : hasB f x y = true) :
    Calls Tryd.prog 90 #[.slice (some ⟨g, 0, none⟩) 6400 c, .int .i64 x, .int .i64 y, .bool wide] w fun e w' => BitsRes w.heap.size (partF f wide x y) e w' ∧ Below w.heap.size w w' := by
  obtain ⟨i0, hi, hz0, hz1, hz2⟩ := info_parts infoB
  obtain ⟨i2, hi2, hy0, hy1, hy2⟩ := info_parts infoPt
  have HB := Lib.hid hB
  have hch := hasB_chip hx
  obtain ⟨⟨x1, x2⟩, y1, y2⟩ := hch
  have HX := Lib.hid hx
  have hk := cIx_lt x1 x2 y1 y2
  clear hB hx
  go_enter Tryd.func90, Tryd.ntmps90
  go_wp2_with (at_make; refine wpList_make_full _ rfl _ _ 50 rfl w.heap.size 4 i0 (.bool false) 1 Tryd.underlying50 hi hz0 hz1 .i64 .i64 6400 6400 6400 rfl rfl rfl rfl (by rw [hz2]; omega) (by unfold maxLen; omega) (Nat.le_refl _) ?_; intro w1 own1 grow1)
  have hB1 : Below w.heap.size w w1 := (Below.refl _ _).grown grow1 (Nat.le_refl _) (fun k hk => by cases hk)
  have HF1 := Lib.hid (bits_made own1)
  have hs1 : w.heap.size < w1.heap.size := own1.lt w.heap.size rfl |>.2
  clear own1 grow1 hz0 hz1 hz2 hi
  obtain ⟨B, hBB⟩ : ∃ B, B = w.heap.size := ⟨_, rfl⟩
  rw [← hBB] at hs1 hB1 HF1 ⊢
  have HBB := Lib.hid hBB
  clear hBB
  obtain ⟨k0, hk0⟩ : ∃ k0, cIx x y = k0 := ⟨_, rfl⟩
  rw [hk0] at hk
  have r0 : (0 : Int) ≤ (k0 : Int) := by omega
  have r1 : (k0 : Int) < 6400 := by omega
  obtain ⟨g1, g2⟩ := bits_set HF1.out hk
  have HFl := Lib.hid (Flood.begin (wide := wide) HX.out)
  rw [hk0] at HFl
  have HB1 := Lib.hid (HB.out.below (w' := w1) (by rw [← HBB.out]; exact hB1))
  go_wp2_with (go_at_call 99; refine (l03At_any x y _ x1 x2 y1 y2).mono ?_; rintro e wz ⟨rfl, rfl⟩; rw [hk0])
  obtain ⟨W0, hW0⟩ : ∃ W0, W0 = (w1.setCell ⟨B, k0, none⟩ (.bool true)).alloc (.cells #[.int .i64 x, .int .i64 y] 131) := ⟨_, rfl⟩
  have hbW : Below B w W0 := by rw [hW0]; exact Below.alloc (hB1.setCell (Nat.le_refl _) _) (by simp; omega) _
  have hFW : BitsIs W0 B (fun i => false || decide (i = k0)) := by
    rw [hW0]
    exact (HF1.out.set hk).below ((Below.refl _ _).alloc (Nat.le_refl _) _)
  have hOW : W0.ownsRow (B + 1) 131 2 (.slice (some ⟨w1.heap.size, 0, none⟩) 1 1) 1 (ptC [(x, y)]) := by
    refine ⟨rfl, .inr ⟨w1.heap.size, 1, #[.int .i64 x, .int .i64 y], rfl, by omega, ?_, by omega, by unfold maxLen; omega, rfl, rfl⟩⟩
    rw [hW0]
    have := heap_alloc_new (w1.setCell ⟨B, k0, none⟩ (.bool true)) (.cells #[.int .i64 x, .int .i64 y] 131)
    simpa using this
  rw [← hW0]
  have HBW := Lib.hid hbW
  have HFW := Lib.hid hFW
  have HOW := Lib.hid hOW
  clear hW0 g1 g2 hbW hFW hOW HF1 hB1 HB1
  go_wp2_with fail
  go_loopw [10, 11] (fun s10 s11 wr => ∃ (i h c' : Nat) (L : List (Int × Int)) (F : Nat → Bool), i ≤ L.length ∧ s10 = .slice (some ⟨h, 0, none⟩) L.length c' ∧ s11 = .int .i64 (i : Nat) ∧ Hid (Below B w wr) ∧ Hid (BitsIs wr B F) ∧ Hid (wr.ownsRow (B + 1) 131 2 (.slice (some ⟨h, 0, none⟩) L.length c') L.length (ptC L)) ∧ Hid (Flood f wide x y F L) ∧ Hid (SeenI f wide F L i)) (fun _ s11 _ => 6400 - (intOf s11).toNat)
  case atStart => exact ⟨0, _, _, [(x, y)], _, by omega, rfl, rfl, HBW, HFW, HOW, HFl, Lib.hid (fun j p hj => by omega)⟩
  case round =>
    obtain ⟨i, h, c', L, F, hil, rfl, rfl, HW, HF, HO, HL, HS⟩ := hrel
    have hL64 := HL.out.len
    by_cases hlt : i < L.length
    case neg =>
      obtain rfl : i = L.length := by omega
      have q1 : ¬ (L.length : Int) < (L.length : Int) := by omega
      have hfin : Hid (BitsIs wr B (partF f wide x y)) := Lib.hid (HF.out.congr fun k hk => HL.out.done HS.out k hk)
      go_wp2_with fail
      go_ret
      exact ⟨⟨B, rfl, by rw [← HBB.out]; exact Nat.le_refl _, hfin.out⟩, by rw [← HBB.out]; exact HW.out⟩
    have q1 : (i : Int) < (L.length : Int) := by omega
    have q0 : (0 : Int) ≤ (i : Int) := by omega
    obtain ⟨p, hp⟩ : ∃ p, L[i]? = some p := ⟨_, List.getElem?_eq_getElem hlt⟩
    have hpc := HL.out.at hp
    have HP := Lib.hid hp
    have HS0 := Lib.hid (NbrV.start (f := f) (wide := wide) (F := F) (p := p))
    obtain ⟨hcon, ⟨p1, p2⟩, p3, p4⟩ := hpc
    have HC := Lib.hid hcon
    clear hp hcon
    go_wp2_with fail
    go_loopw [10, 12] (fun s10 s12 wv => ∃ (b : Int) (h c' : Nat) (L : List (Int × Int)) (F : Nat → Bool), -1 ≤ b ∧ b ≤ 2 ∧ i < L.length ∧ s10 = .slice (some ⟨h, 0, none⟩) L.length c' ∧ s12 = .int .i64 b ∧ Hid (Below B w wv) ∧ Hid (BitsIs wv B F) ∧ Hid (wv.ownsRow (B + 1) 131 2 (.slice (some ⟨h, 0, none⟩) L.length c') L.length (ptC L)) ∧ Hid (Flood f wide x y F L) ∧ Hid (SeenI f wide F L i) ∧ Hid (L[i]? = some p) ∧ Hid (NbrV f wide F p b)) (fun _ s12 _ => (2 - intOf s12).toNat)
    case atStart => exact ⟨-1, h, c', L, F, by omega, by omega, hlt, rfl, rfl, HW, HF, HO, HL, HS, HP, HS0⟩
    case round =>
      clear hL64 hlt q1 HW HF HO HL HS HP HS0
      obtain ⟨b, h, c', L, F, hb1, hb2, hlt, rfl, rfl, HW, HF, HO, HL, HS, HP, HN⟩ := hrel
      by_cases hb : b ≤ 1
      case neg =>
        obtain rfl : b = 2 := by omega
        have hl64 := HL.out.len
        have HS1 := Lib.hid (HS.out.next HP.out HN.out.done)
        go_wp2_with fail
        go_roundw
        case rel => exact ⟨i + 1, h, c', L, F, by omega, rfl, by go_num, HW, HF, HO, HL, HS1⟩
        case measure => have := HL.out.len; simp [intOf]; omega
      have HU := Lib.hid HN.out.to
      clear HN
      go_wp2_with fail
      go_loopw [10, 13] (fun s10 s13 wu => ∃ (a : Int) (h c' : Nat) (L : List (Int × Int)) (F : Nat → Bool), -1 ≤ a ∧ a ≤ 2 ∧ i < L.length ∧ s10 = .slice (some ⟨h, 0, none⟩) L.length c' ∧ s13 = .int .i64 a ∧ Hid (Below B w wu) ∧ Hid (BitsIs wu B F) ∧ Hid (wu.ownsRow (B + 1) 131 2 (.slice (some ⟨h, 0, none⟩) L.length c') L.length (ptC L)) ∧ Hid (Flood f wide x y F L) ∧ Hid (SeenI f wide F L i) ∧ Hid (L[i]? = some p) ∧ Hid (NbrU f wide F p b a)) (fun _ s13 _ => (2 - intOf s13).toNat)
      case atStart => exact ⟨-1, h, c', L, F, by omega, by omega, hlt, rfl, rfl, HW, HF, HO, HL, HS, HP, HU⟩
      case round =>
        clear hlt HW HF HO HL HS HP HU
        obtain ⟨a, h, c', L, F, ha1, ha2, hlt, rfl, rfl, HW, HF, HO, HL, HS, HP, HU⟩ := hrel
        by_cases ha : a ≤ 1
        case neg =>
          obtain rfl : a = 2 := by omega
          have HV1 := Lib.hid HU.out.to
          go_wp2_with fail
          go_roundw
          case rel => exact ⟨b + 1, h, c', L, F, by omega, by omega, hlt, rfl, rfl, HW, HF, HO, HL, HS, HP, HV1⟩
          case measure => simp [intOf]; omega
        have hL64 := HL.out.len
        have q1 : (i : Int) < (L.length : Int) := by omega
        obtain ⟨z0, z1⟩ := ptC_at L i p HP.out
        have c0 := HO.out.cells (g := h) rfl (i * 2) _ z0
        have c1 := HO.out.cells (g := h) rfl (i * 2 + 1) _ z1
        rw [addG] at c0 c1
        obtain ⟨X, hX⟩ : ∃ X, p.1 + a = X := ⟨_, rfl⟩
        obtain ⟨Y, hY⟩ : ∃ Y, p.2 + b = Y := ⟨_, rfl⟩
        have wX : IntKind.i64.wrap (p.1 + a) = X := by rw [IntKind.wrap_i64]; omega
        have wY : IntKind.i64.wrap (p.2 + b) = Y := by rw [IntKind.wrap_i64]; omega
        have HXX := Lib.hid hX
        have HYY := Lib.hid hY
        clear z0 z1 hX hY
        go_wp2_with fail
        go_region_held3 (fun w' => Below wr.heap.size wr w' ∧ w'.cell? ⟨h, i * 2, none⟩ = some (.int .i64 p.1) ∧ w'.cell? ⟨h, i * 2 + 1, none⟩ = some (.int .i64 p.2))
          (first | ((try dsimp only); go_split_ands; (repeat' (with_reducible refine And.intro ?_ ?_)) <;> first | ((repeat (with_reducible refine keepS ?_ (by simp; try omega) _)); (first | (with_reducible assumption) | (with_reducible exact keepC (by assumption) (by assumption)) | (with_reducible exact keepA (by assumption) _) | (with_reducible exact keepR (by assumption) (by omega) _))) | ((try simp only [World.size_alloc, World.size_setCell, World.size_drew]); omega) | (refine Mats.below hM ?_ hM.size; (repeat (first | (with_reducible exact Below.refl _ _) | (with_reducible refine Ext.drewN ?_ _) | (with_reducible refine Below.drew ?_) | (with_reducible refine Ext.alloc ?_ _) | (with_reducible refine Ext.setCell ?_ (by simp; try omega) _) | (with_reducible refine Ext.trans ?_ (by assumption)) | (with_reducible assumption) | exact Below.refl _ _)); done) | ((repeat (first | (with_reducible exact Below.refl _ _) | (with_reducible refine Ext.drewN ?_ _) | (with_reducible refine Below.drew ?_) | (with_reducible refine Ext.alloc ?_ _) | (with_reducible refine Ext.setCell ?_ (by simp; try omega) _) | (with_reducible refine Ext.trans ?_ (by assumption)) | (with_reducible assumption) | exact Below.refl _ _)); done) | (go_keep; done)))
          (fail)
        all_goals
          rename_i hHeld
          clear hHeld c0 c1
          obtain ⟨N, hN⟩ : ∃ N, wr.heap.size = N := ⟨_, rfl⟩
          obtain ⟨Wp, hWp⟩ : ∃ Wp, Wp = (wr.alloc (.cells #[.int .i64 X, .int .i64 Y] 131)).drew := ⟨_, rfl⟩
          have bWp : Below wr.heap.size wr Wp := by rw [hWp]; exact (((Below.refl _ _).alloc (Nat.le_refl _) _).drew)
          have d0 : Wp.cell? ⟨N, 0, none⟩ = some (.int .i64 X) := by rw [hWp, ← hN]; simp [go_sem]
          have d1 : Wp.cell? ⟨N, 1, none⟩ = some (.int .i64 Y) := by rw [hWp, ← hN]; simp [go_sem]
          have hNs : N < Wp.heap.size := World.block_lt_of_cell? Wp ⟨N, 0, none⟩ d0
          have hwn := (HO.out.lt h rfl).2
          have hBN : B < wr.heap.size := HF.out.lt
          have hBs := HBB.out
          rw [← hWp, hN]
          have HWp := Lib.hid (show Below B w Wp from Below.trans HW.out (bWp.mono (by omega)))
          have HBp := Lib.hid (HB.out.below (w' := Wp) (by rw [← HBB.out]; exact HWp.out))
          have HFp := Lib.hid (HF.out.below bWp)
          have HOp := Lib.hid (own_keep HO.out bWp)
          rw [hN] at hwn hBN
          clear hWp bWp hN HW HF HO hBs
          obtain ⟨A, hA⟩ : ∃ A, A = (wide || (a == 0) || (b == 0)) := ⟨_, rfl⟩
          obtain ⟨q, hq⟩ : ∃ q, q = (A && hasB f X Y && !(F (cIx X Y))) := ⟨_, rfl⟩
          have HA := Lib.hid hA
          have HQ := Lib.hid hq
          clear hA hq
          rcases Bool.eq_false_or_eq_true wide with rfl | rfl
          all_goals
            go_upto_region 14 with fail
            go_cut [83] (fun s83 wx => s83 = .bool q ∧ Below Wp.heap.size Wp wx)
            case first =>
              cases hh : hasB f X Y with
              | false =>
                obtain rfl : q = false := by rw [HQ.out, hh]; simp
                cases hza : (a == 0) <;> cases hzb : (b == 0)
                all_goals
                  go_wp2_with (go_at_call 59; refine (l03Has_any g c f X Y _ HBp.out).mono ?_; rintro e v1 ⟨rfl, rfl⟩; rw [hh])
                  go_meet
                  exact ⟨rfl, Below.refl _ _⟩
              | true =>
                obtain ⟨⟨X1, X2⟩, Y1, Y2⟩ := hasB_chip hh
                have hkk := cIx_lt X1 X2 Y1 Y2
                have hcell := (HFp.out _ hkk).1
                obtain ⟨k, hk'⟩ : ∃ k, cIx X Y = k := ⟨_, rfl⟩
                rw [hk'] at hkk hcell
                have t0 : (0 : Int) ≤ (k : Int) := by omega
                have t1 : (k : Int) < 6400 := by omega
                cases hFk : F k with
                | true =>
                  obtain rfl : q = false := by rw [HQ.out, hk', hFk]; simp
                  rw [hFk] at hcell
                  cases hza : (a == 0) <;> cases hzb : (b == 0)
                  all_goals
                    go_wp2_with (first | (go_at_call 59; refine (l03Has_any g c f X Y _ HBp.out).mono ?_; rintro e v1 ⟨rfl, rfl⟩; rw [hh]) | (go_at_call 99; refine (l03At_any X Y _ X1 X2 Y1 Y2).mono ?_; rintro e wz ⟨rfl, rfl⟩; rw [hk']))
                    go_meet
                    exact ⟨rfl, Below.refl _ _⟩
                | false =>
                  rw [hFk] at hcell
                  cases hza : (a == 0) <;> cases hzb : (b == 0)
                  all_goals
                    have hqq := HQ.out
                    rw [HA.out, hza, hzb, hh, hk', hFk] at hqq
                    simp only [Bool.or_true, Bool.true_or, Bool.or_false, Bool.false_or, Bool.and_true, Bool.true_and, Bool.false_and, Bool.not_false] at hqq
                    subst hqq
                    go_wp2_with (first | (go_at_call 59; refine (l03Has_any g c f X Y _ HBp.out).mono ?_; rintro e v1 ⟨rfl, rfl⟩; rw [hh]) | (go_at_call 99; refine (l03At_any X Y _ X1 X2 Y1 Y2).mono ?_; rintro e wz ⟨rfl, rfl⟩; rw [hk']))
                    go_meet
                    exact ⟨rfl, Below.refl _ _⟩
            case rest =>
              obtain ⟨rfl, bq⟩ := hcut
              cases q with
              | false =>
                have HU1 := Lib.hid (HU.out.step (by
                  rw [HXX.out, HYY.out]
                  intro hadj hhas
                  have hqq := HQ.out
                  rw [hhas, HA.out] at hqq
                  have h3 := hadj.2.2
                  cases hf : F (cIx X Y) with
                  | true => rfl
                  | false =>
                    exfalso
                    rw [hf] at hqq
                    have hxx := HXX.out
                    have hyy := HYY.out
                    rcases h3 with h3 | h3 | h3
                    · first | (cases h3; done) | (simp at hqq; done)
                    · have : (a == 0) = true := by rw [beq_iff_eq]; omega
                      rw [this] at hqq; simp at hqq
                    · have : (b == 0) = true := by rw [beq_iff_eq]; omega
                      rw [this] at hqq; simp at hqq))
                have HW2 := Lib.hid (show Below B w wc from Below.trans HWp.out (bq.mono (by omega)))
                have HF2 := Lib.hid (HFp.out.below bq)
                have HO2 := Lib.hid (own_keep HOp.out bq)
                go_wp2_with fail
                go_roundw
                case rel => exact ⟨a + 1, h, c', L, F, by omega, by omega, hlt, rfl, by go_num, HW2, HF2, HO2, HL, HS, HP, HU1⟩
                case measure => simp [intOf]; omega
              | true =>
                have hqq := HQ.out.symm
                rw [Bool.and_eq_true, Bool.and_eq_true, Bool.not_eq_true'] at hqq
                obtain ⟨⟨hA, hh⟩, hFk⟩ := hqq
                rw [HA.out, Bool.or_eq_true, Bool.or_eq_true, beq_iff_eq, beq_iff_eq] at hA
                have hadj : adjC _ p.1 p.2 X Y := ⟨by have := HXX.out; omega, by have := HYY.out; omega, by
                  rcases hA with (hA | hA) | hA
                  · exact .inl hA
                  · right; left; have := HXX.out; omega
                  · right; right; have := HYY.out; omega⟩
                have HCN := Lib.hid (Conn.step HC.out hadj hh)
                obtain ⟨⟨X1, X2⟩, Y1, Y2⟩ := hasB_chip hh
                have hkk := cIx_lt X1 X2 Y1 Y2
                have HL1 := Lib.hid (HL.out.put HCN.out hFk)
                have HS1 := Lib.hid (HS.out.put (q := (X, Y)) (G := fun i => F i || decide (i = cIx X Y)) (by omega) (fun i e => by rw [e]; rfl))
                have HP1 : Hid ((L ++ [(X, Y)])[i]? = some p) := Lib.hid (by rw [List.getElem?_append_left hlt]; exact HP.out)
                have HU1 := Lib.hid ((HU.out.mono (G := fun i => F i || decide (i = cIx X Y)) (fun i e => by rw [e]; rfl)).step (fun _ _ => by rw [HXX.out, HYY.out]; simp))
                have HW2 := Lib.hid (show Below B w wc from Below.trans HWp.out (bq.mono (by omega)))
                have HF2 := Lib.hid (HFp.out.below bq)
                have HO2 := Lib.hid (own_keep HOp.out bq)
                have e0 := keepC bq d0
                have e1 := keepC bq d1
                obtain ⟨k, hk'⟩ : ∃ k, cIx X Y = k := ⟨_, rfl⟩
                rw [hk'] at hkk HL1 HS1 HU1
                have t0 : (0 : Int) ≤ (k : Int) := by omega
                have t1 : (k : Int) < 6400 := by omega
                obtain ⟨g1, g2⟩ := bits_set HF2.out hkk
                have hhB := (HO2.out.lt h rfl).1
                have hhs := (HO2.out.lt h rfl).2
                clear hA hh hFk hadj d0 d1 HFp HOp HWp
                have HO3 : Hid ((wc.setCell ⟨B, k, none⟩ (.bool true)).ownsRow (B + 1) 131 2 (.slice (some ⟨h, 0, none⟩) L.length c') L.length (ptC L)) := Lib.hid (own_keepAt HO2.out (Below.heap_setCell _ _ _ _ (by simp; omega)))
                have HF3 := Lib.hid (HF2.out.set hkk)
                go_wp2_with (first | (go_at_call 99; refine (l03At_any X Y _ X1 X2 Y1 Y2).mono ?_; rintro e wz ⟨rfl, rfl⟩; rw [hk']) | (at_builtin; refine wpList_append_own _ rfl _ _ 132 rfl (B + 1) 131 i2 (.agg #[.int .i64 0, .int .i64 0]) 2 16 Tryd.underlying132 hi2 hy0 hy1 hy2 rfl (by decide) _ _ _ rfl (HO3.out.alloc _) ⟨wc.heap.size, 0, none⟩ 1 1 [.int .i64 X, .int .i64 Y] rfl rfl ?c1 ?c2 ?c3 ?c4 ?c5 ?_))
                case c1 =>
                  intro j u hj
                  match j, hj with
                  | 0, hj => simp at hj; subst hj; rw [addG]; simp [go_sem]
                  | 1, hj => simp at hj; subst hj; rw [addG]; simp [go_sem]
                case c2 => intro u hu; simp at hu; rcases hu with rfl | rfl <;> rfl
                case c3 => unfold maxLen; omega
                case c4 => omega
                case c5 => simp only [World.size_alloc, World.size_setCell]; omega
                intro v' wn hown' hgrow _
                have hgr := hgrow
                have hb3 : Below B w wn := Below.grown ((HW2.out.setCell (Nat.le_refl _) _).alloc (by simp only [World.size_setCell]; omega) _) hgrow (by simp only [World.size_alloc, World.size_setCell]; omega) (fun j hj => by have e : j = h := (by simpa [Value.ownBlock] using hj.symm); omega)
                have hf3 : BitsIs wn B (fun i => F i || decide (i = k)) := (HF3.out.below ((Below.refl _ _).alloc (Nat.le_refl _) _)).grown hgrow (by simp [Value.ownBlock]; omega)
                obtain ⟨h', c2, rfl, hown1⟩ := pts_next (p := (X, Y)) rfl hown'
                have HW3 := Lib.hid hb3
                have HF4 := Lib.hid hf3
                have HO4 := Lib.hid hown1
                have hlen1 : (L ++ [(X, Y)]).length = L.length + 1 := by simp
                have HLN := Lib.hid hlen1
                clear hown' hgrow hgr hb3 hf3 hown1 HF3 HO3 HW2 HF2 HO2 g1 g2 e0 e1 hlen1
                go_wp2_with fail
                go_roundw
                case rel => exact ⟨a + 1, h', c2, L ++ [(X, Y)], _, by omega, by omega, by rw [HLN.out]; omega, by simp, by go_num, HW3, HF4, HO4, HL1, HS1, HP1, HU1⟩
                case measure => simp [intOf]; omega
end Go.Proofs.YtepfnnhmplaocaaDoor
