/- The model's reading of a transform's text. -/
import Derived.Test.YtlbanaoabifaiaaDoorPaV
namespace Go.Proofs.YtlbanaoabifaiaaDoor
open Go.RowKit
set_option linter.unusedVariables false
set_option linter.unusedSimpArgs false

theorem l01Words_n (s : ByteArray) (n : Nat) (w : World) (hs : s.size ≤ 1000) (hn : (wordsB s).length = n) :
    Calls Tryd.prog 35 #[.string s, .int .u8 32] w fun e w' => (∃ g cap, e = .returned (.slice (some ⟨g, 0, none⟩) n cap) ∧ TextsIs w.heap.size w' g (wordsB s)) ∧ Below w.heap.size w w' :=
  (l01Words_any s w hs).mono fun e w' ⟨g, cap, he, ht, hb⟩ => ⟨⟨g, cap, by rw [he, hn], ht⟩, hb⟩

/-- The answer where there is no such transform. -/
def noT (e : Ending) : Prop := e = .returned (.tuple #[.agg #[.int .i64 0, .int .i64 0, .int .i64 0], .bool false])
def yesT (o x y : Int) (e : Ending) : Prop := e = .returned (.tuple #[.agg #[.int .i64 o, .int .i64 x, .int .i64 y], .bool true])
theorem noT_rfl : noT (.returned (.tuple #[.agg #[.int .i64 0, .int .i64 0, .int .i64 0], .bool false])) := rfl
theorem yesT_rfl (o x y : Int) : yesT o x y (.returned (.tuple #[.agg #[.int .i64 o, .int .i64 x, .int .i64 y], .bool true])) := rfl

set_option maxHeartbeats 4000000 in
theorem specParse_long (s : ByteArray) (w : World) (hs : 12 < s.size) : Calls Tryd.prog 13 #[.string s] w fun e w' => noT e ∧ Below w.heap.size w w' := by
  have q0 : (12 : Int) < (s.size : Int) := by omega
  go_enter Tryd.func13, Tryd.ntmps13
  go_wp2_with fail
  refine bodyPost_ret (v := .tuple #[.agg #[.int .i64 0, .int .i64 0, .int .i64 0], .bool false]) (by simp [*, results, Tryd.results13, go_sem]) rfl ⟨noT_rfl, ?_⟩
  (repeat (first | (with_reducible exact Below.refl _ _) | (with_reducible refine Ext.drewN ?_ _) | (with_reducible refine Below.drew ?_) | (with_reducible refine Ext.alloc ?_ _) | (with_reducible refine Ext.setCell ?_ (by simp; try omega) _) | (with_reducible refine Ext.trans ?_ (by assumption)) | (with_reducible assumption) | exact Below.refl _ _))

set_option maxHeartbeats 4000000 in
theorem specParse_count (s : ByteArray) (w : World) (hs : s.size ≤ 12) (hn : (wordsB s).length ≠ 3) : Calls Tryd.prog 13 #[.string s] w fun e w' => noT e ∧ Below w.heap.size w w' := by
  have q0 : ¬ (12 : Int) < (s.size : Int) := by omega
  obtain ⟨n, hn'⟩ : ∃ n, (wordsB s).length = n := ⟨_, rfl⟩
  have hne : ((n : Int) != 3) = true := by simp; omega
  go_enter Tryd.func13, Tryd.ntmps13
  go_wp2_with (go_at_call 35; refine (l01Words_n s n _ (by omega) hn').mono ?_; rintro e w1 ⟨⟨g, cap, rfl, ht⟩, bw1⟩; obtain ⟨sw1, zw1, cw1, fw1⟩ := bcell bw1; (try simp only [World.size_alloc, World.size_setCell, World.size_drew] at sw1))
  refine bodyPost_ret (v := .tuple #[.agg #[.int .i64 0, .int .i64 0, .int .i64 0], .bool false]) (by simp [*, results, Tryd.results13, go_sem]) rfl ⟨noT_rfl, ?_⟩
  (repeat (first | (with_reducible exact Below.refl _ _) | (with_reducible refine Ext.drewN ?_ _) | (with_reducible refine Below.drew ?_) | (with_reducible refine Ext.alloc ?_ _) | (with_reducible refine Ext.setCell ?_ (by simp; try omega) _) | (with_reducible refine Ext.trans ?_ (by assumption)) | (with_reducible assumption) | exact Below.refl _ _))

set_option maxHeartbeats 4000000 in
theorem specParse_first (s a b c : ByteArray) (w : World) (hs : s.size ≤ 12) (hw : wordsB s = [a, b, c]) (ha : a.size ≠ 2) : Calls Tryd.prog 13 #[.string s] w fun e w' => noT e ∧ Below w.heap.size w w' := by
  have q0 : ¬ (12 : Int) < (s.size : Int) := by omega
  have hne : ((a.size : Int) != 2) = true := by simp; omega
  go_enter Tryd.func13, Tryd.ntmps13
  go_wp2_with (go_at_call 35; refine (l01Words_n s 3 _ (by omega) (by rw [hw]; rfl)).mono ?_; rintro e w1 ⟨⟨g, cap, rfl, ht⟩, bw1⟩; obtain ⟨sw1, zw1, cw1, fw1⟩ := bcell bw1; (try simp only [World.size_alloc, World.size_setCell, World.size_drew] at sw1); have c0 := ht.2.2 0 a (by rw [hw]; rfl); clear ht)
  refine bodyPost_ret (v := .tuple #[.agg #[.int .i64 0, .int .i64 0, .int .i64 0], .bool false]) (by simp [*, results, Tryd.results13, go_sem]) rfl ⟨noT_rfl, ?_⟩
  (repeat (first | (with_reducible exact Below.refl _ _) | (with_reducible refine Ext.drewN ?_ _) | (with_reducible refine Below.drew ?_) | (with_reducible refine Ext.alloc ?_ _) | (with_reducible refine Ext.setCell ?_ (by simp; try omega) _) | (with_reducible refine Ext.trans ?_ (by assumption)) | (with_reducible assumption) | exact Below.refl _ _))

def PRes (s b c : ByteArray) (o : Int) (e : Ending) : Prop := ∃ v1 b1 v2 b2, Good b v1 b1 ∧ Good c v2 b2 ∧ ((b1 = true ∧ b2 = true ∧ fmtB o v1 v2 = s ∧ yesT o v1 v2 e) ∨ (¬ (b1 = true ∧ b2 = true ∧ fmtB o v1 v2 = s) ∧ noT e))
theorem eqT (u s : ByteArray) : (u = s ∧ (u.toList == s.toList) = true) ∨ (u ≠ s ∧ (u.toList == s.toList) = false) := by
  by_cases h : u = s
  · exact .inl ⟨h, by rw [h]; exact beq_self_eq_true _⟩
  · refine .inr ⟨h, ?_⟩
    rw [beq_eq_false_iff_ne]
    intro e
    rw [Lib.toList_data, Lib.toList_data] at e
    exact h (toList_inj e)

-- MAIN
set_option maxHeartbeats 8000000 in
theorem specParse_m (s a b c : ByteArray) (w : World) (hs : s.size ≤ 12) (hw : wordsB s = [a, b, c]) (ha : a.size = 2) (h0 : 0 < a.size) (h1 : 1 < a.size) (hm : (a[0].toNat : Int) = 109) (hb : b.size ≤ 1000) (hc : c.size ≤ 1000) :
    Calls Tryd.prog 13 #[.string s] w fun e w' => PRes s b c ((a[1].toNat : Int) - 48 + 4) e ∧ Below w.heap.size w w' := by
  have q0 : ¬ (12 : Int) < (s.size : Int) := by omega
  have hne : ((a.size : Int) != 2) = false := by simp; omega
  have q1 : (1 : Int) < (a.size : Int) := by omega
  have q2 : (0 : Int) < (a.size : Int) := by omega
  have u8 := UInt8.toNat_lt a[1]
  obtain ⟨p1, x1⟩ : ∃ p1, p1 = wrap64 (a[1].toNat : Int) := ⟨_, rfl⟩
  obtain ⟨p2, x2⟩ : ∃ p2, p2 = wrap64 (p1 - 48) := ⟨_, rfl⟩
  obtain ⟨p3, x3⟩ : ∃ p3, p3 = wrap64 (p2 + 4) := ⟨_, rfl⟩
  have hp : p3 = (a[1].toNat : Int) - 48 + 4 := by
    have y1 : p1 = (a[1].toNat : Int) := by rw [x1]; unfold wrap64; omega
    have y2 : p2 = p1 - 48 := by rw [x2]; unfold wrap64; omega
    rw [x3, y2, y1]; unfold wrap64; omega
  rw [← hp]
  clear hp
  have z1 := x1.symm
  have z2 := x2.symm
  have z3 := x3.symm
  clear x1 x2 x3
  clear u8
  go_enter Tryd.func13, Tryd.ntmps13
  go_wp2_with (first | (go_at_call 35; refine (l01Words_n s 3 _ (by omega) (by rw [hw]; rfl)).mono ?_; rintro e w1 ⟨⟨g, cap, rfl, ht⟩, bw1⟩; obtain ⟨sw1, zw1, cw1, fw1⟩ := bcell bw1; (try simp only [World.size_alloc, World.size_setCell, World.size_drew] at sw1); have C1 := fun o => cw1 w.heap.size o (by simp); have F1 := fun o => fw1 w.heap.size o (by simp); clear cw1 fw1 zw1; (try have l11 : w.heap.size < w1.heap.size := by omega); have c0 := ht.2.2 0 a (by rw [hw]; rfl); have c1 := ht.2.2 1 b (by rw [hw]; rfl); have c2 := ht.2.2 2 c (by rw [hw]; rfl); have g1 := ht.2.1; clear ht) | (go_at_call 36; have hd2 := d2; clear hd2; refine (l01Value_any c _ hc).mono ?_; rintro e w3 ⟨⟨v2, b2, rfl, G2⟩, bw3⟩; have H2 := Lib.hid G2; clear G2; obtain ⟨sw3, zw3, cw3, fw3⟩ := bcell bw3; (try simp only [World.size_alloc, World.size_setCell, World.size_drew] at sw3); have C3 := fun o => cw3 w.heap.size o (by omega); have F3 := fun o => fw3 w.heap.size o (by omega); clear cw3 fw3 zw3; clear d2; (try have l13 : w.heap.size < w3.heap.size := by omega); cases b1 <;> cases b2) | (go_at_call 36; refine (l01Value_any b _ hb).mono ?_; rintro e w2 ⟨⟨v1, b1, rfl, G1⟩, bw2⟩; have H1 := Lib.hid G1; clear G1; obtain ⟨sw2, zw2, cw2, fw2⟩ := bcell bw2; (try simp only [World.size_alloc, World.size_setCell, World.size_drew] at sw2); have C2 := fun o => cw2 w.heap.size o (by omega); have F2 := fun o => fw2 w.heap.size o (by omega); clear cw2 fw2 zw2; have d2 := keepC bw2 c2; clear c2 c1 c0; (try have l12 : w.heap.size < w2.heap.size := by omega)) | (go_at_call 37; refine (specFormat_any _ _ _ _).mono ?_; rintro e w4 ⟨rfl, bw4⟩; obtain ⟨sw4, zw4, cw4, fw4⟩ := bcell bw4; (try simp only [World.size_alloc, World.size_setCell, World.size_drew] at sw4); have C4 := fun o => cw4 w.heap.size o (by (try simp only [World.size_alloc, World.size_setCell]); omega); have F4 := fun o => fw4 w.heap.size o (by (try simp only [World.size_alloc, World.size_setCell]); omega); have C5 := fun o => cw4 w3.heap.size o (by (try simp only [World.size_alloc, World.size_setCell]); omega); have F5 := fun o => fw4 w3.heap.size o (by (try simp only [World.size_alloc, World.size_setCell]); omega); clear cw4 fw4 zw4; (try have l14 : w3.heap.size < w4.heap.size := by omega); (try have l15 : w.heap.size < w4.heap.size := by omega); rcases eqT (fmtB p3 v1 v2) s with ⟨he, he'⟩ | ⟨he, he'⟩))
  all_goals first
    | (have ht : ((fmtB p3 v1 v2).toList == s.toList) = true := he'; refine bodyPost_ret (v := .tuple #[.agg #[.int .i64 p3, .int .i64 v1, .int .i64 v2], .bool true]) (by simp [*, results, Tryd.results13, go_sem]) rfl ⟨⟨_, _, _, _, H1.out, H2.out, .inl ⟨rfl, rfl, he, yesT_rfl _ _ _⟩⟩, ?_⟩; (repeat (first | (with_reducible exact Below.refl _ _) | (with_reducible refine Ext.drewN ?_ _) | (with_reducible refine Below.drew ?_) | (with_reducible refine Ext.alloc ?_ _) | (with_reducible refine Ext.setCell ?_ (by simp; try omega) _) | (with_reducible refine Ext.trans ?_ (by assumption)) | (with_reducible assumption) | exact Below.refl _ _)))
    | (refine bodyPost_ret (v := .tuple #[.agg #[.int .i64 0, .int .i64 0, .int .i64 0], .bool false]) (by simp [*, results, Tryd.results13, go_sem]) rfl ⟨⟨_, _, _, _, H1.out, H2.out, .inr ⟨?_, noT_rfl⟩⟩, ?_⟩ <;> first | (intro ⟨h1, h2, h3⟩; first | exact Bool.noConfusion h1 | exact Bool.noConfusion h2 | exact he h3) | (repeat (first | (with_reducible exact Below.refl _ _) | (with_reducible refine Ext.drewN ?_ _) | (with_reducible refine Below.drew ?_) | (with_reducible refine Ext.alloc ?_ _) | (with_reducible refine Ext.setCell ?_ (by simp; try omega) _) | (with_reducible refine Ext.trans ?_ (by assumption)) | (with_reducible assumption) | exact Below.refl _ _)))

set_option maxHeartbeats 8000000 in
theorem specParse_r (s a b c : ByteArray) (w : World) (hs : s.size ≤ 12) (hw : wordsB s = [a, b, c]) (ha : a.size = 2) (h0 : 0 < a.size) (h1 : 1 < a.size) (hm : ((a[0].toNat : Int) == 109) = false) (hb : b.size ≤ 1000) (hc : c.size ≤ 1000) :
    Calls Tryd.prog 13 #[.string s] w fun e w' => PRes s b c ((a[1].toNat : Int) - 48) e ∧ Below w.heap.size w w' := by
  have q0 : ¬ (12 : Int) < (s.size : Int) := by omega
  have hne : ((a.size : Int) != 2) = false := by simp; omega
  have q1 : (1 : Int) < (a.size : Int) := by omega
  have q2 : (0 : Int) < (a.size : Int) := by omega
  have u8 := UInt8.toNat_lt a[1]
  obtain ⟨p1, x1⟩ : ∃ p1, p1 = wrap64 (a[1].toNat : Int) := ⟨_, rfl⟩
  obtain ⟨p2, x2⟩ : ∃ p2, p2 = wrap64 (p1 - 48) := ⟨_, rfl⟩
  obtain ⟨p3, x3⟩ : ∃ p3, p3 = p2 := ⟨_, rfl⟩
  have hp : p3 = (a[1].toNat : Int) - 48 := by
    have y1 : p1 = (a[1].toNat : Int) := by rw [x1]; unfold wrap64; omega
    have y2 : p2 = p1 - 48 := by rw [x2]; unfold wrap64; omega
    rw [x3, y2, y1]
  rw [← hp]
  clear hp
  have z1 := x1.symm
  have z2 := x2.symm
  have z3 := x3.symm
  clear x1 x2 x3
  clear u8
  go_enter Tryd.func13, Tryd.ntmps13
  go_wp2_with (first | (go_at_call 35; refine (l01Words_n s 3 _ (by omega) (by rw [hw]; rfl)).mono ?_; rintro e w1 ⟨⟨g, cap, rfl, ht⟩, bw1⟩; obtain ⟨sw1, zw1, cw1, fw1⟩ := bcell bw1; (try simp only [World.size_alloc, World.size_setCell, World.size_drew] at sw1); have C1 := fun o => cw1 w.heap.size o (by simp); have F1 := fun o => fw1 w.heap.size o (by simp); clear cw1 fw1 zw1; (try have l11 : w.heap.size < w1.heap.size := by omega); have c0 := ht.2.2 0 a (by rw [hw]; rfl); have c1 := ht.2.2 1 b (by rw [hw]; rfl); have c2 := ht.2.2 2 c (by rw [hw]; rfl); have g1 := ht.2.1; clear ht) | (go_at_call 36; have hd2 := d2; clear hd2; refine (l01Value_any c _ hc).mono ?_; rintro e w3 ⟨⟨v2, b2, rfl, G2⟩, bw3⟩; have H2 := Lib.hid G2; clear G2; obtain ⟨sw3, zw3, cw3, fw3⟩ := bcell bw3; (try simp only [World.size_alloc, World.size_setCell, World.size_drew] at sw3); have C3 := fun o => cw3 w.heap.size o (by omega); have F3 := fun o => fw3 w.heap.size o (by omega); clear cw3 fw3 zw3; clear d2; (try have l13 : w.heap.size < w3.heap.size := by omega); cases b1 <;> cases b2) | (go_at_call 36; refine (l01Value_any b _ hb).mono ?_; rintro e w2 ⟨⟨v1, b1, rfl, G1⟩, bw2⟩; have H1 := Lib.hid G1; clear G1; obtain ⟨sw2, zw2, cw2, fw2⟩ := bcell bw2; (try simp only [World.size_alloc, World.size_setCell, World.size_drew] at sw2); have C2 := fun o => cw2 w.heap.size o (by omega); have F2 := fun o => fw2 w.heap.size o (by omega); clear cw2 fw2 zw2; have d2 := keepC bw2 c2; clear c2 c1 c0; (try have l12 : w.heap.size < w2.heap.size := by omega)) | (go_at_call 37; refine (specFormat_any _ _ _ _).mono ?_; rintro e w4 ⟨rfl, bw4⟩; obtain ⟨sw4, zw4, cw4, fw4⟩ := bcell bw4; (try simp only [World.size_alloc, World.size_setCell, World.size_drew] at sw4); have C4 := fun o => cw4 w.heap.size o (by (try simp only [World.size_alloc, World.size_setCell]); omega); have F4 := fun o => fw4 w.heap.size o (by (try simp only [World.size_alloc, World.size_setCell]); omega); have C5 := fun o => cw4 w3.heap.size o (by (try simp only [World.size_alloc, World.size_setCell]); omega); have F5 := fun o => fw4 w3.heap.size o (by (try simp only [World.size_alloc, World.size_setCell]); omega); clear cw4 fw4 zw4; (try have l14 : w3.heap.size < w4.heap.size := by omega); (try have l15 : w.heap.size < w4.heap.size := by omega); rcases eqT (fmtB p3 v1 v2) s with ⟨he, he'⟩ | ⟨he, he'⟩))
  all_goals first
    | (have ht : ((fmtB p3 v1 v2).toList == s.toList) = true := he'; refine bodyPost_ret (v := .tuple #[.agg #[.int .i64 p3, .int .i64 v1, .int .i64 v2], .bool true]) (by simp [*, results, Tryd.results13, go_sem]) rfl ⟨⟨_, _, _, _, H1.out, H2.out, .inl ⟨rfl, rfl, he, yesT_rfl _ _ _⟩⟩, ?_⟩; (repeat (first | (with_reducible exact Below.refl _ _) | (with_reducible refine Ext.drewN ?_ _) | (with_reducible refine Below.drew ?_) | (with_reducible refine Ext.alloc ?_ _) | (with_reducible refine Ext.setCell ?_ (by simp; try omega) _) | (with_reducible refine Ext.trans ?_ (by assumption)) | (with_reducible assumption) | exact Below.refl _ _)))
    | (refine bodyPost_ret (v := .tuple #[.agg #[.int .i64 0, .int .i64 0, .int .i64 0], .bool false]) (by simp [*, results, Tryd.results13, go_sem]) rfl ⟨⟨_, _, _, _, H1.out, H2.out, .inr ⟨?_, noT_rfl⟩⟩, ?_⟩ <;> first | (intro ⟨h1, h2, h3⟩; first | exact Bool.noConfusion h1 | exact Bool.noConfusion h2 | exact he h3) | (repeat (first | (with_reducible exact Below.refl _ _) | (with_reducible refine Ext.drewN ?_ _) | (with_reducible refine Below.drew ?_) | (with_reducible refine Ext.alloc ?_ _) | (with_reducible refine Ext.setCell ?_ (by simp; try omega) _) | (with_reducible refine Ext.trans ?_ (by assumption)) | (with_reducible assumption) | exact Below.refl _ _)))

end Go.Proofs.YtlbanaoabifaiaaDoor
