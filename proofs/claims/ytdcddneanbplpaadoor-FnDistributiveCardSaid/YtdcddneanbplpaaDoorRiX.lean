/- slices.Collect of a region's rectangles: a list in memory of its own. Conditions: the set's rows are in memory; the table of math/bits is in memory. -/
import Derived.Test.YtdcddneanbplpaaDoorRiL
import Derived.Test.YtdcddneanbplpaaDoorRgN
import Derived.Test.YtdcddneanbplpaaDoorRiO
import Derived.RangeFuncBox
namespace Go.Proofs.YtdcddneanbplpaaDoor
open Go.RowKit Go.Shelf
set_option linter.unusedVariables false
set_option linter.unusedSimpArgs false
attribute [local go_sem] Oper.semAt_some

theorem own_stepX {A B : World} {base n' n : Nat} {v : Value} {xs : List Value} (h : A.ownsRow base 25 4 v n xs) (hs : StepX n' (fun t => t = 3) A B) : B.ownsRow base 25 4 v n xs := by
  refine ⟨h.1, ?_⟩
  rcases h.2 with h' | ⟨g, cap, cur, e1, e2, e3, e4⟩
  · exact .inl h'
  · exact .inr ⟨g, cap, cur, e1, e2, (hs.cells g cur _ (by decide) e3).trans e3, e4⟩
theorem boxed_stepX {A B : World} {n' k : Nat} {v : Value} (h : Boxed A k 38 v) (hs : StepX n' (fun t => t = 3) A B) : Boxed B k 38 v := (hs.cells k _ _ (by decide) h).trans h
theorem kept_grown {A B : World} {X : Nat → Prop} {N base n : Nat} {v : Value} {xs : List Value} (h : A.ownsRow base 25 4 v n xs) (hg : A.grownBy B v.ownBlock) (hN : N ≤ base) : Kept (Ex X N RectT A) A B :=
  ⟨hg.os, hg.tape, hg.output, hg.size, fun k hk hE => hg.block k hk (fun e => by
    rcases h.2 with ⟨rfl, _⟩ | ⟨g, cap, cur, rfl, h1, h2, _⟩
    · simp [Value.ownBlock] at e
    · obtain rfl : k = g := by simpa [Value.ownBlock] using e
      exact hE (.inr ⟨by omega, cur, _, h2, rfl⟩))⟩

set_option maxRecDepth 100000 in
set_option maxHeartbeats 4000000 in
theorem appendSeq_any (B0 Br : Nat) (f : Nat → Bool) (G : Nat → Nat) (w : World) (h0 : w.cell? ⟨B0, 0, none⟩ = some (.pointer (some ⟨Br, 0, none⟩))) (hG : RowsAt w Br G) (hf : RowsOK f G) (hD : DebW w) :
    Calls Tryd.prog 116 #[.slice none 0 0, .func (.func 117) #[] #[.pointer (some ⟨B0, 0, none⟩)]] w fun e w' => (∃ v, e = .returned v ∧ w'.ownsRow w.heap.size 25 4 v (canonL f).length (recCells (canonL f))) ∧ Below w.heap.size w w' := by
  obtain ⟨i0, hi, hz0, hz1, hz2⟩ := info_parts Tryd.infoR
  refine calls_of_marks Tryd.func116 rfl ?_
  simp only [Tryd.ntmps116, List.size_toArray, List.length_cons, List.length_nil, Nat.reduceAdd, Nat.reduceSub, Array.replicate_succ, Array.replicate_zero, List.push_toArray, List.append_toArray, List.nil_append, List.cons_append]
  have hb0 : B0 < w.heap.size := World.block_lt_of_cell? w ⟨B0, 0, none⟩ h0
  have hbr := hG.lt
  have hdb := hD.size
  have hlen : (canonL f).length ≤ 3280 := canonL_len f
  go_wp2_with fail
  obtain ⟨wS, hwS⟩ : ∃ wS, wS = w.alloc (.cells #[.slice none 0 0] 38) := ⟨_, rfl⟩
  have sS : wS.heap.size = w.heap.size + 1 := by rw [hwS]; simp
  have bS : Below w.heap.size w wS := by rw [hwS]; (repeat (first | (with_reducible exact Below.refl _ _) | (with_reducible refine Ext.drewN ?_ _) | (with_reducible refine Below.drew ?_) | (with_reducible refine Ext.alloc ?_ _) | (with_reducible refine Ext.setCell ?_ (by simp; try omega) _) | (with_reducible refine Ext.trans ?_ (by assumption)) | (with_reducible assumption) | exact Below.refl _ _))
  have hbx : Boxed wS w.heap.size 38 (.slice none 0 0) := by rw [hwS]; exact Boxed.new _ _ _
  rw [← hwS]
  clear hwS
  refine rangeU2 (gf := 117) (lb := #[.pointer (some ⟨B0, 0, none⟩)]) rfl (enters_of Tryd.func117 (by kernel_rfl) rfl) (encs := fun r : R4 => #[.agg #[.int .i64 r.a, .int .i64 r.b, .int .i64 r.c, .int .i64 r.d]]) (L := canonL f) (fun k => k = w.heap.size) (fun k hk => by omega) w.heap.size RectT (fun t => t = 3) ?hseq (fun _ => rfl)
    (fun ps V => ∃ v, Boxed V w.heap.size 38 v ∧ V.ownsRow w.heap.size 25 4 v ps.length (recCells ps) ∧ Below w.heap.size w V)
    (fun _ _ _ => False)
    (fun s A B hs hb => by
      obtain ⟨v, u1, u2, u3⟩ := hs
      exact ⟨v, boxed_stepX u1 hb, own_stepX u2 hb, u3.trans (hb.below.mono (by omega))⟩)
    (fun _ _ _ _ h _ => h)
    ⟨_, hbx, World.ownsRow_nil _ _ _ _, bS⟩
    (fun T r Bx => (T.setIfInBounds 7 (.agg #[.int .i64 r.a, .int .i64 r.b, .int .i64 r.c, .int .i64 r.d])).setIfInBounds 5 (.pointer (some ⟨Bx, 0, none⟩))) (fun r => .cells #[.int .i64 r.a, .int .i64 r.b, .int .i64 r.c, .int .i64 r.d] 25) ?assign ?body ?done ?stop
  case hseq =>
    intro V hV hVs
    exact region_seqU _ w.heap.size B0 Br f G V ((hV.cell (p := ⟨B0, 0, none⟩) (show B0 < wS.heap.size by omega)).trans ((bS.cell (p := ⟨B0, 0, none⟩) hb0).trans h0)) ((hG.ext bS).ext hV) hf ((hD.ext bS).ext hV) (Ex.not_lt (by omega) hb0) (Ex.not_lt (by omega) hbr) (Ex.not_lt (by omega) hdb) (fun k hk => by omega)
  case assign =>
    intro l r V K hK
    gi_wp2
    exact hK
  case body =>
    rintro l ps r post Bx V hL hBx hVB ⟨v, u1, u2, u3⟩
    have hps : ps.length ≤ 3280 := by
      have := congrArg List.length hL
      simp only [List.length_append, List.length_cons] at this
      omega
    have p0 : V.cell? ⟨Bx, 0, none⟩ = some (.int .i64 r.a) := by rw [cell_of_row _ _ 0 _ _ _ hVB]; rfl
    have p1 : V.cell? ⟨Bx, 1, none⟩ = some (.int .i64 r.b) := by rw [cell_of_row _ _ 1 _ _ _ hVB]; rfl
    have p2 : V.cell? ⟨Bx, 2, none⟩ = some (.int .i64 r.c) := by rw [cell_of_row _ _ 2 _ _ _ hVB]; rfl
    have p3 : V.cell? ⟨Bx, 3, none⟩ = some (.int .i64 r.d) := by rw [cell_of_row _ _ 3 _ _ _ hVB]; rfl
    have c1 := u1.cell
    have U1 := Lib.hid u1
    have U2 := Lib.hid u2
    have U3 := Lib.hid u3
    have HL := Lib.hid hL
    have hn0 := u3.size
    clear u1 u2 u3 hL hVB
    dsimp only
    gi_wp2_with (first | (gi_at_builtin; refine wpListIn_append_own _ rfl _ _ 38 rfl w.heap.size 25 i0 _ 4 32 Tryd.underlying38 hi hz0 hz1 hz2 rfl (by omega) v ps.length (recCells ps) (by rfl) (U2.out.alloc _) ⟨V.heap.size, 0, none⟩ 1 1 [.int .i64 r.a, .int .i64 r.b, .int .i64 r.c, .int .i64 r.d] (by rfl) (by rfl) (World.news_of_block (cs := #[.int .i64 r.a, .int .i64 r.b, .int .i64 r.c, .int .i64 r.d]) (t := 25) (fr := (0, 0)) (heap_alloc_new V _)) (by simp [Value.oneCell']) (by unfold maxLen; omega) (by omega) (by simp; omega) ?_; intro v' w4 hown4 hgrow hnil; obtain ⟨a1, a2, a3, -, a5⟩ := U1.out.appended (by decide) U2.out hn0 (Nat.le_refl _) hown4 hgrow; have a6 := a1.cell; have a7 := a1.frozen; obtain ⟨g4, cap4, rfl⟩ := ownsRow_succ hown4))
    refine ⟨(((Kept.refl (Ex (fun k => k = w.heap.size) w.heap.size RectT V) V).alloc _).transU (kept_grown (U2.out.alloc _) hgrow (Nat.le_refl _)) (fun k h => h) (fun k h => h)).setCell (.inl rfl) _, _, a2, ?_, U3.out.trans a5⟩
    rw [List.length_append, recCells_snoc]
    exact a3
  case done =>
    rintro D V hDq ⟨v, u1, u2, u3⟩ hDV
    have c1 := u1.cell
    have U2 := Lib.hid u2
    clear u1 u2
    dsimp only
    go_wp2_with fail
    refine leaves_one (D := D) (v := v) hDV (fun w' hw' => ⟨by clear hw'; simp [results, Tryd.results116, go_sem], ⟨v, rfl, ?_⟩, ?_⟩)
    · rw [hw']
      exact ownsRow_putObj U2.out _ hDV rfl
    · rw [hw']
      exact u3.trans (below_putObj _ _ (by omega))
  case stop =>
    intro D c ps V _ _ h _
    exact h.elim

theorem collect_any (B0 Br : Nat) (f : Nat → Bool) (G : Nat → Nat) (w : World) (h0 : w.cell? ⟨B0, 0, none⟩ = some (.pointer (some ⟨Br, 0, none⟩))) (hG : RowsAt w Br G) (hf : RowsOK f G) (hD : DebW w) :
    Calls Tryd.prog 96 #[.func (.func 117) #[] #[.pointer (some ⟨B0, 0, none⟩)]] w fun e w' => (∃ v, e = .returned v ∧ w'.ownsRow w.heap.size 25 4 v (canonL f).length (recCells (canonL f))) ∧ Below w.heap.size w w' := by
  go_enter Tryd.func96, Tryd.ntmps96
  go_wp2_with fail
  refine (appendSeq_any B0 Br f G w h0 hG hf hD).mono ?_
  rintro e w1 ⟨⟨v, rfl, hv⟩, bw1⟩
  go_wp2_with fail
  exact bodyPost_ret (v := v) (by simp [results, Tryd.results96, go_sem]) rfl ⟨⟨v, rfl, hv⟩, bw1⟩
end Go.Proofs.YtdcddneanbplpaaDoor
