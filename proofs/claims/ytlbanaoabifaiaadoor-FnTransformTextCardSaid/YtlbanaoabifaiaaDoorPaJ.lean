/- The program's ParseTransform: its walk. Conditions: the library's variables hold what the program's text lays. -/
import Derived.Test.YtlbanaoabifaiaaDoorPaI
namespace Go.Proofs.YtlbanaoabifaiaaDoor
open Go.RowKit
set_option linter.unusedVariables false
set_option linter.unusedSimpArgs false

def NP (s : ByteArray) (v : Int) (ev : Value) : Prop := ∀ m, Lib.parseIntB 64 s.data.toList = .ok m → v = m ∧ ev = .nilIface
def OP (s : ByteArray) (o : Int) : Prop := ∀ u : Nat, u < 8 → s = wordB u → o = u
/-- What the program's parse of a text of three words answers. -/
def IRes (s a b c : ByteArray) (e : Ending) : Prop :=
  (∃ v ev, NP b v ev ∧ ev ≠ .nilIface ∧ noT e) ∨ (∃ v ev, NP c v ev ∧ ev ≠ .nilIface ∧ noT e) ∨
    ∃ o v1 v2, OP a o ∧ NP b v1 .nilIface ∧ NP c v2 .nilIface ∧ ((fmtB o v1 v2 = s ∧ yesT o v1 v2 e) ∨ (fmtB o v1 v2 ≠ s ∧ noT e))

set_option maxHeartbeats 4000000 in
theorem implParse_count (s : ByteArray) (w : World) (hs : s.size ≤ 1048576) (hP : ParW w) (hn : (wordsB s).length ≠ 3) : Calls Tryd.prog 9 #[.string s] w fun e w' => noT e ∧ Below w.heap.size w w' := by
  obtain ⟨n, hn'⟩ : ∃ n, (wordsB s).length = n := ⟨_, rfl⟩
  have hne : ((n : Int) != 3) = true := by simp; omega
  have HP := Lib.hid hP
  clear hP
  go_enter Tryd.func9, Tryd.ntmps9
  go_wp2_with (go_at_call 23; refine (split_any s n _ hs (HP.out.below (Ext.alloc (Below.refl _ _) _)) hn').mono ?_; rintro e w1 ⟨⟨g, rfl, ht⟩, bw1⟩; clear ht; obtain ⟨sw1, zw1, cw1, fw1⟩ := bcell bw1; (try simp only [World.size_alloc, World.size_setCell, World.size_drew] at sw1))
  refine bodyPost_ret (v := .tuple #[.agg #[.int .i64 0, .int .i64 0, .int .i64 0], .bool false]) (by simp [*, results, Tryd.results9, go_sem]) rfl ⟨noT_rfl, ?_⟩
  (repeat (first | (with_reducible exact Below.refl _ _) | (with_reducible refine Ext.drewN ?_ _) | (with_reducible refine Below.drew ?_) | (with_reducible refine Ext.alloc ?_ _) | (with_reducible refine Ext.setCell ?_ (by simp; try omega) _) | (with_reducible refine Ext.trans ?_ (by assumption)) | (with_reducible assumption) | exact Below.refl _ _))

set_option maxHeartbeats 8000000 in
theorem implParse_3 (s a b c : ByteArray) (w : World) (hs : s.size ≤ 1048576) (hP : ParW w) (hw : wordsB s = [a, b, c]) (hb : b.size ≤ 1048576) (hc : c.size ≤ 1048576) :
    Calls Tryd.prog 9 #[.string s] w fun e w' => IRes s a b c e ∧ Below w.heap.size w w' := by
  have HP := Lib.hid hP
  clear hP
  go_enter Tryd.func9, Tryd.ntmps9
  go_wp2_with (first | (go_at_call 23; refine (split_any s 3 _ hs (HP.out.below (Ext.alloc (Below.refl _ _) _)) (by rw [hw]; rfl)).mono ?_; rintro e w1 ⟨⟨g, rfl, ht⟩, bw1⟩; have P1 := Lib.hid ((HP.out.below (Ext.alloc (Below.refl _ _) _)).below bw1); obtain ⟨sw1, zw1, cw1, fw1⟩ := bcell bw1; (try simp only [World.size_alloc, World.size_setCell, World.size_drew] at sw1); have C1 := fun o => cw1 w.heap.size o (by simp); have F1 := fun o => fw1 w.heap.size o (by simp); clear cw1 fw1 zw1; (try have l11 : w.heap.size < w1.heap.size := by omega); have c0 := ht.2.2 0 a (by rw [hw]; rfl); have c1 := ht.2.2 1 b (by rw [hw]; rfl); have c2 := ht.2.2 2 c (by rw [hw]; rfl); clear ht) | (go_at_call 24; have hd2 := d2; clear hd2; refine (parseInt_any c _ hc P2.out).mono ?_; rintro e w3 ⟨⟨v2, ev2, rfl, he2, G2⟩, bw3⟩; have H2 := Lib.hid (show NP c v2 ev2 from G2); clear G2; have P3 := Lib.hid (P2.out.below bw3); obtain ⟨sw3, zw3, cw3, fw3⟩ := bcell bw3; (try simp only [World.size_alloc, World.size_setCell, World.size_drew] at sw3); have C3 := fun o => cw3 w.heap.size o (by omega); have F3 := fun o => fw3 w.heap.size o (by omega); clear cw3 fw3 zw3; (try have l13 : w.heap.size < w3.heap.size := by omega); have e0 := keepC bw3 d0; clear d2 d0; rcases he2 with rfl | ⟨t2, p2, rfl⟩) | (go_at_call 24; refine (parseInt_any b _ hb P1.out).mono ?_; rintro e w2 ⟨⟨v1, ev1, rfl, he1, G1⟩, bw2⟩; have H1 := Lib.hid (show NP b v1 ev1 from G1); clear G1; have P2 := Lib.hid (P1.out.below bw2); obtain ⟨sw2, zw2, cw2, fw2⟩ := bcell bw2; (try simp only [World.size_alloc, World.size_setCell, World.size_drew] at sw2); have C2 := fun o => cw2 w.heap.size o (by omega); have F2 := fun o => fw2 w.heap.size o (by omega); clear cw2 fw2 zw2; (try have l12 : w.heap.size < w2.heap.size := by omega); have d0 := keepC bw2 c0; have d2 := keepC bw2 c2; clear c0 c1 c2; rcases he1 with rfl | ⟨t1, p1, rfl⟩) | (go_at_call 25; refine (orientationOfWord_any a _).mono ?_; rintro e w4 ⟨⟨o, rfl, G3⟩, bw4⟩; have H3 := Lib.hid (show OP a o from G3); clear G3; have P4 := Lib.hid (P3.out.below bw4); obtain ⟨sw4, zw4, cw4, fw4⟩ := bcell bw4; (try simp only [World.size_alloc, World.size_setCell, World.size_drew] at sw4); have C4 := fun o => cw4 w.heap.size o (by omega); have F4 := fun o => fw4 w.heap.size o (by omega); clear cw4 fw4 zw4 e0; (try have l14 : w.heap.size < w4.heap.size := by omega)) | (go_at_call 10; refine (implFormat_any _ _ _ _ (P4.out.tab.below (Ext.alloc (Below.refl _ _) _))).mono ?_; rintro e w5 ⟨rfl, bw5⟩; obtain ⟨sw5, zw5, cw5, fw5⟩ := bcell bw5; (try simp only [World.size_alloc, World.size_setCell, World.size_drew] at sw5); have C5 := fun o => cw5 w.heap.size o (by (try simp only [World.size_alloc, World.size_setCell]); omega); have F5 := fun o => fw5 w.heap.size o (by (try simp only [World.size_alloc, World.size_setCell]); omega); have C6 := fun o => cw5 w4.heap.size o (by (try simp only [World.size_alloc, World.size_setCell]); omega); have F6 := fun o => fw5 w4.heap.size o (by (try simp only [World.size_alloc, World.size_setCell]); omega); clear cw5 fw5 zw5; (try have l15 : w4.heap.size < w5.heap.size := by omega); (try have l16 : w.heap.size < w5.heap.size := by omega); rcases eqT (fmtB o v1 v2) s with ⟨he, he'⟩ | ⟨he, he'⟩))
  all_goals first
    | (have ht : ((fmtB o v1 v2).toList == s.toList) = true := he'; refine bodyPost_ret (v := .tuple #[.agg #[.int .i64 o, .int .i64 v1, .int .i64 v2], .bool true]) (by simp [*, results, Tryd.results9, go_sem]) rfl ⟨.inr (.inr ⟨_, _, _, H3.out, H1.out, H2.out, .inl ⟨he, yesT_rfl _ _ _⟩⟩), ?_⟩; (repeat (first | (with_reducible exact Below.refl _ _) | (with_reducible refine Ext.drewN ?_ _) | (with_reducible refine Below.drew ?_) | (with_reducible refine Ext.alloc ?_ _) | (with_reducible refine Ext.setCell ?_ (by simp; try omega) _) | (with_reducible refine Ext.trans ?_ (by assumption)) | (with_reducible assumption) | exact Below.refl _ _)))
    | (have ht : ((fmtB o v1 v2).toList == s.toList) = false := he'; refine bodyPost_ret (v := .tuple #[.agg #[.int .i64 0, .int .i64 0, .int .i64 0], .bool false]) (by simp [*, results, Tryd.results9, go_sem]) rfl ⟨.inr (.inr ⟨_, _, _, H3.out, H1.out, H2.out, .inr ⟨he, noT_rfl⟩⟩), ?_⟩; (repeat (first | (with_reducible exact Below.refl _ _) | (with_reducible refine Ext.drewN ?_ _) | (with_reducible refine Below.drew ?_) | (with_reducible refine Ext.alloc ?_ _) | (with_reducible refine Ext.setCell ?_ (by simp; try omega) _) | (with_reducible refine Ext.trans ?_ (by assumption)) | (with_reducible assumption) | exact Below.refl _ _)))
    | (refine bodyPost_ret (v := .tuple #[.agg #[.int .i64 0, .int .i64 0, .int .i64 0], .bool false]) (by simp [*, results, Tryd.results9, go_sem]) rfl ⟨.inl ⟨_, .iface t1 (.pointer p1), H1.out, (fun h => by cases h), noT_rfl⟩, ?_⟩; (repeat (first | (with_reducible exact Below.refl _ _) | (with_reducible refine Ext.drewN ?_ _) | (with_reducible refine Below.drew ?_) | (with_reducible refine Ext.alloc ?_ _) | (with_reducible refine Ext.setCell ?_ (by simp; try omega) _) | (with_reducible refine Ext.trans ?_ (by assumption)) | (with_reducible assumption) | exact Below.refl _ _)))
    | (refine bodyPost_ret (v := .tuple #[.agg #[.int .i64 0, .int .i64 0, .int .i64 0], .bool false]) (by simp [*, results, Tryd.results9, go_sem]) rfl ⟨.inr (.inl ⟨_, .iface t2 (.pointer p2), H2.out, (fun h => by cases h), noT_rfl⟩), ?_⟩; (repeat (first | (with_reducible exact Below.refl _ _) | (with_reducible refine Ext.drewN ?_ _) | (with_reducible refine Below.drew ?_) | (with_reducible refine Ext.alloc ?_ _) | (with_reducible refine Ext.setCell ?_ (by simp; try omega) _) | (with_reducible refine Ext.trans ?_ (by assumption)) | (with_reducible assumption) | exact Below.refl _ _)))

theorem implParse_yes (o x y : Int) (w : World) (hP : ParW w) (hv : vldB o x y = true) : Calls Tryd.prog 9 #[.string (fmtB o x y)] w fun e w' => yesT o x y e ∧ Below w.heap.size w w' := by
  have hw := fmt_words o x y hv
  have hz := fmt_size o x y
  have hv' := hv
  obtain ⟨⟨o0, o7⟩, ⟨x0, x1⟩, y0, y1⟩ := vldB_t hv'
  have z1 := itoaB_size x (by omega) (by omega)
  have z2 := itoaB_size y (by omega) (by omega)
  refine (implParse_3 _ _ _ _ w (by omega) hP hw (by omega) (by omega)).mono ?_
  rintro e w' ⟨h, hb⟩
  refine ⟨?_, hb⟩
  rcases h with ⟨v, ev, h, hn, _⟩ | ⟨v, ev, h, hn, _⟩ | ⟨o', v1, v2, h1, h2, h3, h⟩
  · exact absurd (h x (itoa_parse x (by omega) (by omega))).2 hn
  · exact absurd (h y (itoa_parse y (by omega) (by omega))).2 hn
  · obtain ⟨u, rfl⟩ : ∃ u : Nat, o = (u : Int) := ⟨o.toNat, by omega⟩
    obtain rfl := h1 u (by omega) rfl
    obtain ⟨rfl, -⟩ := h2 x (itoa_parse x (by omega) (by omega))
    obtain ⟨rfl, -⟩ := h3 y (itoa_parse y (by omega) (by omega))
    rcases h with ⟨_, h⟩ | ⟨h, _⟩
    · exact h
    · exact absurd rfl h

theorem implParse_no (s : ByteArray) (w : World) (hP : ParW w) (hs : s.size ≤ 1048576) (hno : ∀ o x y, vldB o x y = true → s ≠ fmtB o x y) : Calls Tryd.prog 9 #[.string s] w fun e w' => noT e ∧ Below w.heap.size w w' := by
  by_cases h3 : (wordsB s).length = 3
  · obtain ⟨a, b, c, hw⟩ := three _ h3
    have sb := words_small (s := s) (p := b) (by rw [hw]; simp)
    have sc := words_small (s := s) (p := c) (by rw [hw]; simp)
    refine (implParse_3 _ _ _ _ w (by omega) hP hw (by omega) (by omega)).mono ?_
    rintro e w' ⟨h, hb⟩
    refine ⟨?_, hb⟩
    rcases h with ⟨v, ev, h, hn, h'⟩ | ⟨v, ev, h, hn, h'⟩ | ⟨o', v1, v2, h1, h2, h3', h⟩
    · exact h'
    · exact h'
    · rcases h with ⟨h, _⟩ | ⟨_, h⟩
      · exact absurd h (no_fmt hno h3 _ _ _)
      · exact h
  · exact implParse_count s w hs hP h3
end Go.Proofs.YtlbanaoabifaiaaDoor
