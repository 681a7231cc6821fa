/- The laws' copies of libraries, whole. Condition: the cells' parts are in memory. -/
import Derived.Test.YtciodcknobccdaaDoorLbT
namespace Go.Proofs.YtciodcknobccdaaDoor
open Go.RowKit
set_option linter.unusedVariables false
set_option linter.unusedSimpArgs false
attribute [local go_sem ↓] Go.wp_at_zero Go.wp_at_succ

theorem FillAt.other {α : Type} {n : Nat} {cs : α → List Value} {w : World} {g : Nat} {l : List α} {i : Nat} (h : FillAt n cs w g l i) {p : Addr} (hp : p.block ≠ g) (v : Value) : FillAt n cs (w.setCell p v) g l i :=
  ⟨fun k s hk hi j u hj => other_cellL (fun e => hp (by rw [← e])) (h.1 k s hk hi j u hj), fun o ho => by
    obtain ⟨⟨u, hu⟩, hf⟩ := h.2 o ho
    exact ⟨⟨u, other_cellL (fun e => hp (by rw [← e])) hu⟩, (World.frozen?_setCell _ _ _ _).trans hf⟩⟩
/-- A cell whose three rows are blocks of their own. -/
def CelRow (B : Nat) (w : World) (g1 g2 g3 : Nat) (c : Cel) : Prop :=
  (B ≤ g1 ∧ g1 < g2 ∧ g2 < g3 ∧ g3 < w.heap.size) ∧ FillAt 5 Shp.cs w g1 c.a c.a.length ∧ FillAt 4 Lbl.cs w g2 c.b c.b.length ∧ FillAt 8 Ins.cs w g3 c.d c.d.length
theorem CelRow.below {B C : Nat} {w w' : World} {g1 g2 g3 : Nat} {c : Cel} (h : CelRow B w g1 g2 g3 c) (hb : Below C w w') (hC : w.heap.size ≤ C) : CelRow B w' g1 g2 g3 c := by
  obtain ⟨⟨h0, h1, h2, h3⟩, r1, r2, r3⟩ := h
  have hs := hb.size
  exact ⟨⟨h0, h1, h2, by omega⟩, r1.below hb (by omega), r2.below hb (by omega), r3.below hb (by omega)⟩
theorem CelRow.other {B : Nat} {w : World} {g1 g2 g3 : Nat} {c : Cel} (h : CelRow B w g1 g2 g3 c) {p : Addr} (hp : p.block < B) (v : Value) : CelRow B (w.setCell p v) g1 g2 g3 c := by
  obtain ⟨⟨h0, h1, h2, h3⟩, r1, r2, r3⟩ := h
  exact ⟨⟨h0, h1, h2, by simpa using h3⟩, r1.other (by omega) v, r2.other (by omega) v, r3.other (by omega) v⟩
theorem CelRow.at {B : Nat} {w : World} {g1 g2 g3 : Nat} {c : Cel} (h : CelRow B w g1 g2 g3 c) : CelAt w.heap.size w (some ⟨g1, 0, none⟩) (some ⟨g2, 0, none⟩) (some ⟨g3, 0, none⟩) c := by
  obtain ⟨⟨h0, h1, h2, h3⟩, r1, r2, r3⟩ := h
  exact ⟨r1.lies (by omega), r2.lies (by omega), r3.lies (by omega)⟩
def CelRes (w : World) (c : Cel) (e : Ending) (w' : World) : Prop :=
  ∃ g1 g2 g3 : Nat, e = .returned (.agg #[.string c.s, .slice (some ⟨g1, 0, none⟩) c.a.length c.a.length, .slice (some ⟨g2, 0, none⟩) c.b.length c.b.length, .slice (some ⟨g3, 0, none⟩) c.d.length c.d.length]) ∧ CelRow w.heap.size w' g1 g2 g3 c
/-- Cells in rows of their own: the first i are there. -/
structure LibOwn (B : Nat) (w : World) (h : Nat) (L : List Cel) (i : Nat) (g1 g2 g3 : Nat → Nat) : Prop where
  low : B ≤ h
  lt : h < w.heap.size
  cell : ∀ k c, k < i → L[k]? = some c → w.cell? ⟨h, k * 4, none⟩ = some (.string c.s) ∧ w.cell? ⟨h, k * 4 + 1, none⟩ = some (.slice (some ⟨g1 k, 0, none⟩) c.a.length c.a.length) ∧
    w.cell? ⟨h, k * 4 + 2, none⟩ = some (.slice (some ⟨g2 k, 0, none⟩) c.b.length c.b.length) ∧ w.cell? ⟨h, k * 4 + 3, none⟩ = some (.slice (some ⟨g3 k, 0, none⟩) c.d.length c.d.length)
  room : ∀ o, o < L.length * 4 → (∃ v, w.cell? ⟨h, o, none⟩ = some v) ∧ w.frozen? ⟨h, o, none⟩ = false
  row : ∀ k c, k < i → L[k]? = some c → CelRow (h + 1) w (g1 k) (g2 k) (g3 k) c
  inc : ∀ j k, j < k → k < i → g3 j < g1 k
theorem LibOwn.below {B C h i : Nat} {w w' : World} {L : List Cel} {g1 g2 g3 : Nat → Nat} (o : LibOwn B w h L i g1 g2 g3) (hb : Below C w w') (hC : w.heap.size ≤ C) : LibOwn B w' h L i g1 g2 g3 := by
  have hl := o.lt
  refine ⟨o.low, Nat.lt_of_lt_of_le o.lt hb.size, fun k c hk hc => ?_, fun q hq => ?_, fun k c hk hc => (o.row k c hk hc).below hb hC, o.inc⟩
  · obtain ⟨c0, c1, c2, c3⟩ := o.cell k c hk hc
    exact ⟨(hb.cell (p := ⟨h, k * 4, none⟩) (by simp; omega)).trans c0, (hb.cell (p := ⟨h, k * 4 + 1, none⟩) (by simp; omega)).trans c1, (hb.cell (p := ⟨h, k * 4 + 2, none⟩) (by simp; omega)).trans c2, (hb.cell (p := ⟨h, k * 4 + 3, none⟩) (by simp; omega)).trans c3⟩
  · obtain ⟨⟨v, hv⟩, hf⟩ := o.room q hq
    exact ⟨⟨v, (hb.cell (p := ⟨h, q, none⟩) (by simp; omega)).trans hv⟩, (hb.frozen (p := ⟨h, q, none⟩) (by simp; omega)).trans hf⟩
theorem LibOwn.cels {B h : Nat} {w : World} {L : List Cel} {g1 g2 g3 : Nat → Nat} (o : LibOwn B w h L L.length g1 g2 g3) : CelsAt w.heap.size w (some ⟨h, 0, none⟩) L := fun i c hi => by
  obtain ⟨c0, c1, c2, c3⟩ := o.cell i c (get_lt hi) hi
  exact ⟨h, 0, _, _, _, _, _, _, rfl, o.lt, by simpa using c0, by simpa using c1, by simpa using c2, by simpa using c3, (o.row i c (get_lt hi) hi).at⟩
theorem celrow_put {B : Nat} {g1 g2 g3 h o : Nat} {c : Cel} (hB : h < B) : ∀ (vs : List Value) (w : World) (k : Nat), CelRow B w g1 g2 g3 c → CelRow B (putL w h o k vs) g1 g2 g3 c
  | [], w, k, hr => hr
  | v :: r, w, k, hr => celrow_put hB r _ _ (hr.other hB v)
def updG (g : Nat → Nat) (i v : Nat) : Nat → Nat := fun j => if j = i then v else g j
theorem updG_same (g : Nat → Nat) (i v : Nat) : updG g i v i = v := by simp [updG]
theorem updG_other (g : Nat → Nat) {i v j : Nat} (h : j ≠ i) : updG g i v j = g j := by simp [updG, h]
theorem LibOwn.step {B h i : Nat} {w : World} {L : List Cel} {g1 g2 g3 : Nat → Nat} {c : Cel} {a1 a2 a3 : Nat} (o : LibOwn B w h L i g1 g2 g3) (hi : L[i]? = some c) (hr : CelRow (h + 1) w a1 a2 a3 c) (hgt : ∀ j, j < i → g3 j < a1) :
    LibOwn B (putL w h (i * 4) 0 [.string c.s, .slice (some ⟨a1, 0, none⟩) c.a.length c.a.length, .slice (some ⟨a2, 0, none⟩) c.b.length c.b.length, .slice (some ⟨a3, 0, none⟩) c.d.length c.d.length]) h L (i + 1) (updG g1 i a1) (updG g2 i a2) (updG g3 i a3) := by
  have hil := get_lt hi
  obtain ⟨vs, hvs⟩ : ∃ vs : List Value, vs = [.string c.s, .slice (some ⟨a1, 0, none⟩) c.a.length c.a.length, .slice (some ⟨a2, 0, none⟩) c.b.length c.b.length, .slice (some ⟨a3, 0, none⟩) c.d.length c.d.length] := ⟨_, rfl⟩
  have hlen : vs.length = 4 := by rw [hvs]; rfl
  rw [← hvs]
  refine ⟨o.low, by rw [putL_size]; exact o.lt, fun k d hk hd => ?_, fun q hq => ⟨putL_some _ _ _ (o.room q hq).1, (putL_frozen _ _ _).trans (o.room q hq).2⟩, fun k d hk hd => ?_, fun j k hjk hk => ?_⟩
  · by_cases e : k = i
    · subst e
      rw [hi] at hd
      cases hd
      rw [updG_same, updG_same, updG_same]
      have h4 := putL_at (g := h) (o := k * 4) vs w 0 (fun t ht => by rw [Nat.zero_add]; exact (o.room _ (by omega)).1)
      refine ⟨?_, ?_, ?_, ?_⟩
      · exact h4 0 _ (by rw [hvs]; rfl)
      · exact h4 1 _ (by rw [hvs]; rfl)
      · exact h4 2 _ (by rw [hvs]; rfl)
      · exact h4 3 _ (by rw [hvs]; rfl)
    · rw [updG_other _ e, updG_other _ e, updG_other _ e]
      obtain ⟨c0, c1, c2, c3⟩ := o.cell k d (by omega) hd
      have ot : ∀ x, x < i * 4 → (putL w h (i * 4) 0 vs).cell? ⟨h, x, none⟩ = w.cell? ⟨h, x, none⟩ := fun x hx => putL_other _ _ _ (fun t h1 h2 e => by simp at e; try omega)
      exact ⟨(ot _ (by omega)).trans c0, (ot _ (by omega)).trans c1, (ot _ (by omega)).trans c2, (ot _ (by omega)).trans c3⟩
  · by_cases e : k = i
    · subst e
      rw [hi] at hd
      cases hd
      rw [updG_same, updG_same, updG_same]
      exact celrow_put (by omega) _ _ _ hr
    · rw [updG_other _ e, updG_other _ e, updG_other _ e]
      exact celrow_put (by omega) _ _ _ (o.row k d (by omega) hd)
  · rw [updG_other g3 (show j ≠ i by omega)]
    by_cases e : k = i
    · subst e; rw [updG_same]; exact hgt j hjk
    · rw [updG_other _ e]; exact o.inc j k hjk (by omega)
theorem LibOwn.other {B h i : Nat} {w : World} {L : List Cel} {g1 g2 g3 : Nat → Nat} (o : LibOwn B w h L i g1 g2 g3) {p : Addr} (hp : p.block < h) (v : Value) : LibOwn B (w.setCell p v) h L i g1 g2 g3 := by
  refine ⟨o.low, by simpa using o.lt, fun k c hk hc => ?_, fun q hq => ?_, fun k c hk hc => (o.row k c hk hc).other (by omega) _, o.inc⟩
  · obtain ⟨c0, c1, c2, c3⟩ := o.cell k c hk hc
    have hne : ∀ x, (⟨h, x, none⟩ : Addr) ≠ p := fun x e => by rw [← e] at hp; exact absurd hp (by simp)
    exact ⟨other_cellL (hne _) c0, other_cellL (hne _) c1, other_cellL (hne _) c2, other_cellL (hne _) c3⟩
  · obtain ⟨⟨u, hu⟩, hf⟩ := o.room q hq
    have hne : ∀ x, (⟨h, x, none⟩ : Addr) ≠ p := fun x e => by rw [← e] at hp; exact absurd hp (by simp)
    exact ⟨⟨u, other_cellL (hne _) hu⟩, (World.frozen?_setCell _ _ _ _).trans hf⟩
theorem LibOwn.lower {B C h i : Nat} {w : World} {L : List Cel} {g1 g2 g3 : Nat → Nat} (o : LibOwn B w h L i g1 g2 g3) (hC : C ≤ h) : LibOwn C w h L i g1 g2 g3 := ⟨hC, o.lt, o.cell, o.room, o.row, o.inc⟩
def LibRes (w : World) (L : List Cel) (e : Ending) (w' : World) : Prop :=
  ∃ (h : Nat) (g1 g2 g3 : Nat → Nat), e = .returned (.agg #[.slice (some ⟨h, 0, none⟩) L.length L.length]) ∧ LibOwn w.heap.size w' h L L.length g1 g2 g3
def CelsRes (w : World) (L : List Cel) (e : Ending) (w' : World) : Prop :=
  ∃ (h : Nat) (g1 g2 g3 : Nat → Nat), e = .returned (.slice (some ⟨h, 0, none⟩) L.length L.length) ∧ LibOwn w.heap.size w' h L L.length g1 g2 g3

set_option maxHeartbeats 4000000 in
set_option maxRecDepth 100000 in
theorem toCell_any (c : Cel) (a1 a2 a3 : Option Addr) (k1 k2 k3 : Nat) (w : World) (ha : c.a.length ≤ 1048576) (hb : c.b.length ≤ 1048576) (hd : c.d.length ≤ 1048576) (hC : CelAt w.heap.size w a1 a2 a3 c) :
    Calls Tryd.prog 95 #[.agg #[.string c.s, .slice a1 c.a.length k1, .slice a2 c.b.length k2, .slice a3 c.d.length k3]] w fun e w' => CelRes w c e w' ∧ Below w.heap.size w w' := by
  have HC := Lib.hid hC
  clear hC
  go_enter Tryd.func95, Tryd.ntmps95
  go_wp2_with fail
  refine (toShapeS_any _ c.a _ _ ha (HC.out.1.ext (by (repeat (first | (with_reducible exact Below.refl _ _) | (with_reducible refine Ext.drewN ?_ _) | (with_reducible refine Below.drew ?_) | (with_reducible refine Ext.alloc ?_ _) | (with_reducible refine Ext.setCell ?_ (by simp; try omega) _) | (with_reducible refine Ext.trans ?_ (by assumption)) | (with_reducible assumption) | exact Below.refl _ _))))).mono ?_
  rintro e v1 ⟨g1, ga1, gb1, rfl, bv1, F1⟩
  have F1 := Lib.hid F1
  have ga1 := Lib.hid ga1
  have P21 : v1.cell? ⟨w.heap.size, 2, none⟩ = some (.slice a2 c.b.length k2) := keepC bv1 (by simp [go_sem])
  have P31 : v1.cell? ⟨w.heap.size, 3, none⟩ = some (.slice a3 c.d.length k3) := keepC bv1 (by simp [go_sem])
  have R01 : v1.cell? ⟨w.heap.size + 1, 0, none⟩ = some (.string ⟨#[]⟩) := keepC bv1 (by simp [go_sem])
  have Rf01 : v1.frozen? ⟨w.heap.size + 1, 0, none⟩ = false := by rw [bv1.frozen (p := ⟨w.heap.size + 1, 0, none⟩) (by simp; try omega)]; (simp [go_sem])
  have O01 : v1.cell? ⟨w.heap.size + 1 + 1, 0, none⟩ = some (.string c.s) := keepC bv1 (by simp [go_sem])
  have Of01 : v1.frozen? ⟨w.heap.size + 1 + 1, 0, none⟩ = false := by rw [bv1.frozen (p := ⟨w.heap.size + 1 + 1, 0, none⟩) (by simp; try omega)]; (simp [go_sem])
  have R11 : v1.cell? ⟨w.heap.size + 1, 1, none⟩ = some (.slice none 0 0) := keepC bv1 (by simp [go_sem])
  have Rf11 : v1.frozen? ⟨w.heap.size + 1, 1, none⟩ = false := by rw [bv1.frozen (p := ⟨w.heap.size + 1, 1, none⟩) (by simp; try omega)]; (simp [go_sem])
  have O11 : v1.cell? ⟨w.heap.size + 1 + 1, 1, none⟩ = some (.slice none 0 0) := keepC bv1 (by simp [go_sem])
  have Of11 : v1.frozen? ⟨w.heap.size + 1 + 1, 1, none⟩ = false := by rw [bv1.frozen (p := ⟨w.heap.size + 1 + 1, 1, none⟩) (by simp; try omega)]; (simp [go_sem])
  have R21 : v1.cell? ⟨w.heap.size + 1, 2, none⟩ = some (.slice none 0 0) := keepC bv1 (by simp [go_sem])
  have Rf21 : v1.frozen? ⟨w.heap.size + 1, 2, none⟩ = false := by rw [bv1.frozen (p := ⟨w.heap.size + 1, 2, none⟩) (by simp; try omega)]; (simp [go_sem])
  have O21 : v1.cell? ⟨w.heap.size + 1 + 1, 2, none⟩ = some (.slice none 0 0) := keepC bv1 (by simp [go_sem])
  have Of21 : v1.frozen? ⟨w.heap.size + 1 + 1, 2, none⟩ = false := by rw [bv1.frozen (p := ⟨w.heap.size + 1 + 1, 2, none⟩) (by simp; try omega)]; (simp [go_sem])
  have R31 : v1.cell? ⟨w.heap.size + 1, 3, none⟩ = some (.slice none 0 0) := keepC bv1 (by simp [go_sem])
  have Rf31 : v1.frozen? ⟨w.heap.size + 1, 3, none⟩ = false := by rw [bv1.frozen (p := ⟨w.heap.size + 1, 3, none⟩) (by simp; try omega)]; (simp [go_sem])
  have O31 : v1.cell? ⟨w.heap.size + 1 + 1, 3, none⟩ = some (.slice none 0 0) := keepC bv1 (by simp [go_sem])
  have Of31 : v1.frozen? ⟨w.heap.size + 1 + 1, 3, none⟩ = false := by rw [bv1.frozen (p := ⟨w.heap.size + 1 + 1, 3, none⟩) (by simp; try omega)]; (simp [go_sem])
  have hs1 := bv1.size
  simp only [World.size_alloc, World.size_setCell, World.size_drew] at hs1
  have HB1 : Hid (Below w.heap.size w v1) := Lib.hid (by (repeat (first | (with_reducible exact Below.refl _ _) | (with_reducible refine Ext.drewN ?_ _) | (with_reducible refine Below.drew ?_) | (with_reducible refine Ext.alloc ?_ _) | (with_reducible refine Ext.setCell ?_ (by simp; try omega) _) | (with_reducible refine Ext.trans ?_ (by assumption)) | (with_reducible assumption) | exact Below.refl _ _)))
  have HV1 := Lib.hid bv1
  clear bv1
  go_wp2_with fail
  refine (toLabelS_any _ c.b _ _ hb (HC.out.2.1.ext (HB1.out.setCell (by first | omega | (simp; done) | (simp; omega)) _))).mono ?_
  rintro e v2 ⟨g2, ga2, gb2, rfl, bv2, F2⟩
  have F2 := Lib.hid F2
  have ga2 := Lib.hid ga2
  have P32 : v2.cell? ⟨w.heap.size, 3, none⟩ = some (.slice a3 c.d.length k3) := keepC bv2 (by simp [go_sem, *])
  have R02 : v2.cell? ⟨w.heap.size + 1, 0, none⟩ = some (.string ⟨#[]⟩) := keepC bv2 (by simp [go_sem, *])
  have Rf02 : v2.frozen? ⟨w.heap.size + 1, 0, none⟩ = false := by rw [bv2.frozen (p := ⟨w.heap.size + 1, 0, none⟩) (by simp; try omega)]; (simp [go_sem, *])
  have O02 : v2.cell? ⟨w.heap.size + 1 + 1, 0, none⟩ = some (.string c.s) := keepC bv2 (by simp [go_sem, *])
  have Of02 : v2.frozen? ⟨w.heap.size + 1 + 1, 0, none⟩ = false := by rw [bv2.frozen (p := ⟨w.heap.size + 1 + 1, 0, none⟩) (by simp; try omega)]; (simp [go_sem, *])
  have R12 : v2.cell? ⟨w.heap.size + 1, 1, none⟩ = some (.slice none 0 0) := keepC bv2 (by simp [go_sem, *])
  have Rf12 : v2.frozen? ⟨w.heap.size + 1, 1, none⟩ = false := by rw [bv2.frozen (p := ⟨w.heap.size + 1, 1, none⟩) (by simp; try omega)]; (simp [go_sem, *])
  have O12 : v2.cell? ⟨w.heap.size + 1 + 1, 1, none⟩ = some (.slice (some ⟨g1, 0, none⟩) c.a.length c.a.length) := keepC bv2 (by simp [go_sem, *])
  have Of12 : v2.frozen? ⟨w.heap.size + 1 + 1, 1, none⟩ = false := by rw [bv2.frozen (p := ⟨w.heap.size + 1 + 1, 1, none⟩) (by simp; try omega)]; (simp [go_sem, *])
  have R22 : v2.cell? ⟨w.heap.size + 1, 2, none⟩ = some (.slice none 0 0) := keepC bv2 (by simp [go_sem, *])
  have Rf22 : v2.frozen? ⟨w.heap.size + 1, 2, none⟩ = false := by rw [bv2.frozen (p := ⟨w.heap.size + 1, 2, none⟩) (by simp; try omega)]; (simp [go_sem, *])
  have O22 : v2.cell? ⟨w.heap.size + 1 + 1, 2, none⟩ = some (.slice none 0 0) := keepC bv2 (by simp [go_sem, *])
  have Of22 : v2.frozen? ⟨w.heap.size + 1 + 1, 2, none⟩ = false := by rw [bv2.frozen (p := ⟨w.heap.size + 1 + 1, 2, none⟩) (by simp; try omega)]; (simp [go_sem, *])
  have R32 : v2.cell? ⟨w.heap.size + 1, 3, none⟩ = some (.slice none 0 0) := keepC bv2 (by simp [go_sem, *])
  have Rf32 : v2.frozen? ⟨w.heap.size + 1, 3, none⟩ = false := by rw [bv2.frozen (p := ⟨w.heap.size + 1, 3, none⟩) (by simp; try omega)]; (simp [go_sem, *])
  have O32 : v2.cell? ⟨w.heap.size + 1 + 1, 3, none⟩ = some (.slice none 0 0) := keepC bv2 (by simp [go_sem, *])
  have Of32 : v2.frozen? ⟨w.heap.size + 1 + 1, 3, none⟩ = false := by rw [bv2.frozen (p := ⟨w.heap.size + 1 + 1, 3, none⟩) (by simp; try omega)]; (simp [go_sem, *])
  have hs2 := bv2.size
  simp only [World.size_alloc, World.size_setCell, World.size_drew] at hs2
  have HB2 : Hid (Below w.heap.size w v2) := Lib.hid (Ext.trans (HB1.out.setCell (by first | omega | (simp; done) | (simp; omega)) _) bv2)
  have HV2 := Lib.hid bv2
  clear bv2 R01 R11 R21 R31 Rf01 Rf11 Rf21 Rf31 O01 O11 O21 O31 Of01 Of11 Of21 Of31 P21 P31
  go_wp2_with fail
  refine (toInstanceS_any _ c.d _ _ hd (HC.out.2.2.ext (HB2.out.setCell (by first | omega | (simp; done) | (simp; omega)) _))).mono ?_
  rintro e v3 ⟨g3, ga3, gb3, rfl, bv3, F3⟩
  have F3 := Lib.hid F3
  have ga3 := Lib.hid ga3
  have R03 : v3.cell? ⟨w.heap.size + 1, 0, none⟩ = some (.string ⟨#[]⟩) := keepC bv3 (by simp [go_sem, *])
  have Rf03 : v3.frozen? ⟨w.heap.size + 1, 0, none⟩ = false := by rw [bv3.frozen (p := ⟨w.heap.size + 1, 0, none⟩) (by simp; try omega)]; (simp [go_sem, *])
  have O03 : v3.cell? ⟨w.heap.size + 1 + 1, 0, none⟩ = some (.string c.s) := keepC bv3 (by simp [go_sem, *])
  have Of03 : v3.frozen? ⟨w.heap.size + 1 + 1, 0, none⟩ = false := by rw [bv3.frozen (p := ⟨w.heap.size + 1 + 1, 0, none⟩) (by simp; try omega)]; (simp [go_sem, *])
  have R13 : v3.cell? ⟨w.heap.size + 1, 1, none⟩ = some (.slice none 0 0) := keepC bv3 (by simp [go_sem, *])
  have Rf13 : v3.frozen? ⟨w.heap.size + 1, 1, none⟩ = false := by rw [bv3.frozen (p := ⟨w.heap.size + 1, 1, none⟩) (by simp; try omega)]; (simp [go_sem, *])
  have O13 : v3.cell? ⟨w.heap.size + 1 + 1, 1, none⟩ = some (.slice (some ⟨g1, 0, none⟩) c.a.length c.a.length) := keepC bv3 (by simp [go_sem, *])
  have Of13 : v3.frozen? ⟨w.heap.size + 1 + 1, 1, none⟩ = false := by rw [bv3.frozen (p := ⟨w.heap.size + 1 + 1, 1, none⟩) (by simp; try omega)]; (simp [go_sem, *])
  have R23 : v3.cell? ⟨w.heap.size + 1, 2, none⟩ = some (.slice none 0 0) := keepC bv3 (by simp [go_sem, *])
  have Rf23 : v3.frozen? ⟨w.heap.size + 1, 2, none⟩ = false := by rw [bv3.frozen (p := ⟨w.heap.size + 1, 2, none⟩) (by simp; try omega)]; (simp [go_sem, *])
  have O23 : v3.cell? ⟨w.heap.size + 1 + 1, 2, none⟩ = some (.slice (some ⟨g2, 0, none⟩) c.b.length c.b.length) := keepC bv3 (by simp [go_sem, *])
  have Of23 : v3.frozen? ⟨w.heap.size + 1 + 1, 2, none⟩ = false := by rw [bv3.frozen (p := ⟨w.heap.size + 1 + 1, 2, none⟩) (by simp; try omega)]; (simp [go_sem, *])
  have R33 : v3.cell? ⟨w.heap.size + 1, 3, none⟩ = some (.slice none 0 0) := keepC bv3 (by simp [go_sem, *])
  have Rf33 : v3.frozen? ⟨w.heap.size + 1, 3, none⟩ = false := by rw [bv3.frozen (p := ⟨w.heap.size + 1, 3, none⟩) (by simp; try omega)]; (simp [go_sem, *])
  have O33 : v3.cell? ⟨w.heap.size + 1 + 1, 3, none⟩ = some (.slice none 0 0) := keepC bv3 (by simp [go_sem, *])
  have Of33 : v3.frozen? ⟨w.heap.size + 1 + 1, 3, none⟩ = false := by rw [bv3.frozen (p := ⟨w.heap.size + 1 + 1, 3, none⟩) (by simp; try omega)]; (simp [go_sem, *])
  have hs3 := bv3.size
  simp only [World.size_alloc, World.size_setCell, World.size_drew] at hs3
  have HB3 : Hid (Below w.heap.size w v3) := Lib.hid (Ext.trans (HB2.out.setCell (by first | omega | (simp; done) | (simp; omega)) _) bv3)
  have HV3 := Lib.hid bv3
  clear bv3 R02 R12 R22 R32 Rf02 Rf12 Rf22 Rf32 O02 O12 O22 O32 Of02 Of12 Of22 Of32 P32
  go_wp2_with fail
  refine bodyPost_ret (v := .agg #[.string c.s, .slice (some ⟨g1, 0, none⟩) c.a.length c.a.length, .slice (some ⟨g2, 0, none⟩) c.b.length c.b.length, .slice (some ⟨g3, 0, none⟩) c.d.length c.d.length]) (by simp [R03, R13, R23, R33, O03, O13, O23, O33, results, Tryd.results95, go_sem]) rfl ?_
  have hg1 := ga1.out
  have hg2 := ga2.out
  have hg3 := ga3.out
  simp only [World.size_alloc, World.size_setCell, World.size_drew] at hg1 hg2 hg3
  have B3 := HB3.out
  refine ⟨⟨g1, g2, g3, rfl, ⟨by omega, by omega, by omega, by simp; omega⟩, ?_, ?_, ?_⟩, by (repeat (first | (with_reducible exact Below.refl _ _) | (with_reducible refine Ext.drewN ?_ _) | (with_reducible refine Below.drew ?_) | (with_reducible refine Ext.alloc ?_ _) | (with_reducible refine Ext.setCell ?_ (by simp; try omega) _) | (with_reducible refine Ext.trans ?_ (by assumption)) | (with_reducible assumption) | exact Below.refl _ _))⟩
  · exact ((((((((((F1.out.other (by simp; omega) _).below HV2.out (by simp; omega)).other (by simp; omega) _).below HV3.out (by simp; omega)).other (by simp; omega) _).other (by simp; omega) _).other (by simp; omega) _).other (by simp; omega) _).other (by simp; omega) _))
  · exact (((((((F2.out.other (by simp; omega) _).below HV3.out (by simp; omega)).other (by simp; omega) _).other (by simp; omega) _).other (by simp; omega) _).other (by simp; omega) _).other (by simp; omega) _)
  · exact ((((F3.out.other (by simp; omega) _).other (by simp; omega) _).other (by simp; omega) _).other (by simp; omega) _).other (by simp; omega) _
set_option maxHeartbeats 4000000 in
set_option maxRecDepth 100000 in
theorem toCellS_any (a : Option Addr) (L : List Cel) (cap : Nat) (w : World) (hs : szCs L ≤ 1048576) (hL : CelsAt w.heap.size w a L) :
    Calls Tryd.prog 64 #[.slice a L.length cap] w fun e w' => CelsRes w L e w' ∧ Below w.heap.size w w' := by
  have HL := Lib.hid hL
  have hlen := sz_len hs
  have HZ := Lib.hid hs
  clear hL hs
  obtain ⟨i0, hi, hz0, hz1, hz2⟩ := info_parts infoCel
  go_enter Tryd.func64, Tryd.ntmps64
  go_wp2_with (at_make; refine wpList_make_full _ rfl _ _ 24 rfl w.heap.size 73 i0 (.agg #[.string ⟨#[]⟩, .slice none 0 0, .slice none 0 0, .slice none 0 0]) 4 Tryd.underlying24 hi hz0 hz1 .i64 .i64 L.length L.length L.length rfl rfl rfl rfl (by rw [hz2]; omega) (by unfold maxLen; omega) (Nat.le_refl _) ?_; intro w1 own1 grow1)
  have hB1 : Below w.heap.size w w1 := (Below.refl _ _).grown grow1 (Nat.le_refl _) (fun k hk => by cases hk)
  have hlt1 := (own1.lt w.heap.size rfl).2
  have HF1 : Hid (LibOwn w.heap.size w1 w.heap.size L 0 (fun _ => 0) (fun _ => 0) (fun _ => 0)) := Lib.hid ⟨Nat.le_refl _, hlt1, fun k c hk => absurd hk (by omega), fun o ho => ⟨by rw [own1.cellAt _ ho]; exact made_some _ _ _ ho, own1.frozenAt _⟩, fun k c hk => absurd hk (by omega), fun j k _ hk => absurd hk (by omega)⟩
  clear own1 grow1 hi hz0 hz1 hz2
  go_loopw [4] (fun s4 wr => ∃ (i : Nat) (g1 g2 g3 : Nat → Nat), i ≤ L.length ∧ s4 = .int .i64 i ∧ w.heap.size < wr.heap.size ∧ Below w.heap.size w wr ∧ Hid (LibOwn w.heap.size wr w.heap.size L i g1 g2 g3)) (fun s4 _ => L.length - (intOf s4).toNat)
  case atStart => exact ⟨0, _, _, _, by omega, rfl, hlt1, hB1, HF1⟩
  case round =>
    obtain ⟨i, g1, g2, g3, hi, rfl, hsz, hW, HF⟩ := hrel
    clear HF1 hB1 hlt1
    by_cases hlt : i < L.length
    · obtain ⟨c, hc⟩ := get_some hlt
      obtain ⟨b, off, a1, a2, a3, k1, k2, k3, rfl, hb, c0, c1, c2, c3, hC⟩ := (HL.out.below hW) i c hc
      obtain ⟨hs1, hs2, hs3, hs4, hs5⟩ := sz_at HZ.out hc
      have HC := Lib.hid (hC.mono hW.size)
      clear hC
      have q1 : (i : Int) < (L.length : Int) := by omega
      have q0 : (0 : Int) ≤ (i : Int) := by omega
      go_wp2_with fail
      refine (toCell_any c _ _ _ _ _ _ _ hs2 hs3 hs4 HC.out).mono ?_
      rintro e w2 ⟨⟨r1, r2, r3, rfl, hR⟩, bw2⟩
      have HF2 := Lib.hid (HF.out.below bw2 (Nat.le_refl _))
      have hs2 := bw2.size
      have hR2 := hR.1.1
      obtain ⟨⟨_, d0⟩, f0⟩ := HF2.out.room (i * 4) (by omega)
      obtain ⟨⟨_, d1⟩, f1⟩ := HF2.out.room (i * 4 + 1) (by omega)
      obtain ⟨⟨_, d2⟩, f2⟩ := HF2.out.room (i * 4 + 2) (by omega)
      obtain ⟨⟨_, d3⟩, f3⟩ := HF2.out.room (i * 4 + 3) (by omega)
      have hR3 : CelRow (w.heap.size + 1) w2 r1 r2 r3 c := ⟨⟨by omega, hR.1.2⟩, hR.2⟩
      have HF3 := Lib.hid (HF2.out.step hc hR3 (fun j hj => by
        obtain ⟨cj, hcj⟩ := get_some (l := L) (i := j) (by omega)
        have := (HF.out.row j cj hj hcj).1.2.2.2
        omega))
      clear hR hR3 hR2
      go_wp2_with fail
      go_roundw
      case rel => exact ⟨i + 1, _, _, _, by omega, by go_num, by simp; omega, by (repeat (first | (with_reducible exact Below.refl _ _) | (with_reducible refine Ext.drewN ?_ _) | (with_reducible refine Below.drew ?_) | (with_reducible refine Ext.alloc ?_ _) | (with_reducible refine Ext.setCell ?_ (by simp; try omega) _) | (with_reducible refine Ext.trans ?_ (by assumption)) | (with_reducible assumption) | exact Below.refl _ _)), HF3⟩
      case measure => simp [intOf]; omega
    · have q1 : ¬ (i : Int) < (L.length : Int) := by omega
      go_wp2_with fail
      go_ret
      exact ⟨⟨w.heap.size, g1, g2, g3, rfl, by have h := HF.out; rw [show i = L.length by omega] at h; exact h⟩, hW⟩
theorem toLibrary_any (a : Option Addr) (L : List Cel) (cap : Nat) (w : World) (hs : szCs L ≤ 1048576) (hL : CelsAt w.heap.size w a L) :
    Calls Tryd.prog 27 #[.agg #[.slice a L.length cap]] w fun e w' => LibRes w L e w' ∧ Below w.heap.size w w' := by
  have HL := Lib.hid hL
  clear hL
  go_enter Tryd.func27, Tryd.ntmps27
  go_wp2_with (first | (go_at_call 64; refine (toCellS_any _ L _ _ hs (HL.out.ext (by (repeat (first | (with_reducible exact Below.refl _ _) | (with_reducible refine Ext.drewN ?_ _) | (with_reducible refine Below.drew ?_) | (with_reducible refine Ext.alloc ?_ _) | (with_reducible refine Ext.setCell ?_ (by simp; try omega) _) | (with_reducible refine Ext.trans ?_ (by assumption)) | (with_reducible assumption) | exact Below.refl _ _))))).mono ?_; rintro e v1 ⟨⟨h, g1, g2, g3, rfl, O1⟩, bv1⟩; obtain ⟨sv1, zv1, cv1, fv1⟩ := bcell bv1; (try simp only [World.size_alloc, World.size_setCell, World.size_drew] at sv1); have O1 := Lib.hid O1; (try have nv1a : w.heap.size < v1.heap.size := by omega); (try have nv1b : w.heap.size + 1 < v1.heap.size := by omega); (try have nv1c : w.heap.size + 1 + 1 < v1.heap.size := by omega)))
  have hlo := O1.out.low
  simp only [World.size_alloc, World.size_setCell, World.size_drew] at hlo
  first | go_ret | (refine bodyPost_ret (v := .agg #[.slice (some ⟨h, 0, none⟩) L.length L.length]) (by simp [*, results, Tryd.results27, go_sem]) rfl ?_)
  refine ⟨⟨h, g1, g2, g3, rfl, ?_⟩, by (repeat (first | (with_reducible exact Below.refl _ _) | (with_reducible refine Ext.drewN ?_ _) | (with_reducible refine Below.drew ?_) | (with_reducible refine Ext.alloc ?_ _) | (with_reducible refine Ext.setCell ?_ (by simp; try omega) _) | (with_reducible refine Ext.trans ?_ (by assumption)) | (with_reducible assumption) | exact Below.refl _ _))⟩
  exact (((O1.out.other (by simp; omega) _).other (by simp; omega) _).lower (by omega))
end Go.Proofs.YtciodcknobccdaaDoor
