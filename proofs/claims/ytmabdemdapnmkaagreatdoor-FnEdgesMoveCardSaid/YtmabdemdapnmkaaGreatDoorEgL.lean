/- The program's upright sides: a map of points to edges. Conditions: the rectangles' cells are in memory and make a region; the table of math/bits is in memory. -/
import Derived.Test.YtmabdemdapnmkaaGreatDoorEgK
import Derived.Test.YtmabdemdapnmkaaGreatDoorEgI
namespace Go.Proofs.YtmabdemdapnmkaaGreatDoor
open Go.RowKit Go.Shelf Go.Maps
set_option linter.unusedVariables false
set_option linter.unusedSimpArgs false
attribute [local go_sem] Oper.semAt_some

theorem inc_len : ∀ (l : List RowE) (a : Int), l.Pairwise (fun e e' => e.1 < e'.1) → (∀ e, e ∈ l → a ≤ e.1 ∧ e.1 < 40) → a ≤ 40 → (l.length : Int) ≤ 40 - a
  | [], a, _, _, h => by simp; omega
  | e :: l, a, h, hb, ha => by
    rw [List.pairwise_cons] at h
    have h1 := hb e (by simp)
    have := inc_len l (e.1 + 1) h.2 (fun e' he' => ⟨by have := h.1 e' he'; omega, (hb e' (by simp [he'])).2⟩) (by omega)
    simp
    omega
theorem tmod2 (i : Nat) : ((i : Int).tmod 2 = 0 ∧ i % 2 = 0 ∧ oI i = 3) ∨ ((i : Int).tmod 2 = 1 ∧ i % 2 = 1 ∧ oI i = 2) := by
  have h : (i : Int).tmod 2 = ((i % 2 : Nat) : Int) := by
    rw [Int.tmod_eq_emod_of_nonneg (by omega)]
    omega
  rcases Nat.mod_two_eq_zero_or_one i with e | e
  · exact .inl ⟨by rw [h, e]; rfl, e, by unfold oI; rw [if_pos e]⟩
  · exact .inr ⟨by rw [h, e]; rfl, e, by unfold oI; rw [if_neg (by omega)]⟩

theorem up_end {mb n0 h B base : Nat} {w V W9 wr w5 : World} {RL : List Int} {v : Value} (KW : Kept (fun k => k = mb ∨ k = B) wr w5) (hB : wr.heap.size ≤ B ∨ ∃ e : R4, n0 ≤ B ∧ wr.heap[B]? = some (eObj e)) (hmb : mb + 1 < n0) (hw : mb + 1 < wr.heap.size) (cm : wr.cell? ⟨mb + 1, 0, none⟩ = some v)
    (H9 : IntsIs base W9 h RL) (HH : wr.heap[h]? = W9.heap[h]?) (hmh : mb < h) (jw : Below mb w wr) (KR : Kept (Ex (fun k => k = mb) n0 EdgeT V) V wr) :
    w5.cell? ⟨mb + 1, 0, none⟩ = some v ∧ w5.heap[h]? = W9.heap[h]? ∧ Below mb w w5 ∧ Kept (Ex (fun k => k = mb) n0 EdgeT V) V w5 := by
  obtain ⟨-, ⟨cur, ec⟩, -⟩ := H9
  have hlt : h < wr.heap.size := (Array.getElem?_eq_some_iff.1 (HH.trans ec)).1
  refine ⟨(KW.cell (p := ⟨mb + 1, 0, none⟩) hw ?_).trans cm, (KW.block h hlt ?_).trans HH, jw.trans (KW.below (by omega) ?_), KR.transU (X := fun k => k = mb) (show Kept (Ex (fun k => k = mb) n0 EdgeT wr) wr w5 from KW.mono ?_) (fun k h => h) (fun k h => h)⟩
  · rintro (e | e)
    · have : mb + 1 = mb := e
      omega
    · replace e : mb + 1 = B := e
      rcases hB with hB | ⟨e', hB, -⟩ <;> omega
  · rintro (e | e)
    · omega
    · rcases hB with hB | ⟨e', hB, he⟩
      · omega
      · rw [← e, HH, ec] at he
        simp at he
  · intro k hk
    rintro (e | e)
    · omega
    · rcases hB with hB | ⟨e', hB, -⟩ <;> omega
  · rintro k hk (e | e)
    · exact .inl e
    · rcases hB with hB | ⟨e', hB, he⟩
      · omega
      · exact .inr ⟨by omega, _, _, by rw [e]; exact he, rfl⟩
theorem kept_grow {a b : World} {mb B : Nat} (h : a.grownBy b (some mb)) : Kept (fun k => k = mb ∨ k = B) a b :=
  ⟨h.os, h.tape, h.output, h.size, fun k hk hX => h.block k hk (fun e => hX (.inl (by cases e; rfl)))⟩

set_option maxRecDepth 100000 in
set_option maxHeartbeats 16000000 in
theorem uprightSides_any (m : Option Addr) (n cap : Nat) (P Q R S : Nat → Int) (w : World) (hn : n ≤ 1048576) (hcap : n ≤ cap) (hD : EnvW w) (hR : RectsIs w.heap.size w m n P Q R S) (hok : okR P Q R S n = true) :
    Calls Tryz.prog 91 #[.slice m n cap] w fun e w' => (∃ mb k, e = .returned (.map (some mb)) ∧ w.heap.size ≤ mb ∧ k ≤ 6561 ∧ UpW (gS (covF P Q R S n)) mb w.heap.size k w') ∧ Below w.heap.size w w' := by
  obtain ⟨f, hf⟩ : ∃ f, f = covF P Q R S n := ⟨_, rfl⟩
  rw [← hf]
  refine calls_of_marks Tryz.func91 rfl ?_
  simp only [Tryz.ntmps91, List.size_toArray, List.length_cons, List.length_nil, Nat.reduceAdd, Nat.reduceSub, Array.replicate_succ, Array.replicate_zero, List.push_toArray, List.append_toArray, List.nil_append, List.cons_append]
  have hmm := @run_makeMap Tryz.prog
  go_wp2_with (first | (go_at_call 118; refine (rowsOf_any _ _ _ _).mono ?_; rintro e w2 ⟨rfl, hw2⟩; subst hw2))
  clear hmm
  obtain ⟨wS, hwS⟩ : ∃ wS, wS = ((w.alloc (.map #[] 0)).alloc (.cells #[.map (some w.heap.size)] 122)).alloc (.cells #[.slice m n cap] 24) := ⟨_, rfl⟩
  have bwS : Below w.heap.size w wS := by rw [hwS]; (repeat (first | (with_reducible exact Below.refl _ _) | (with_reducible refine Ext.drewN ?_ _) | (with_reducible refine Below.drew ?_) | (with_reducible refine Ext.alloc ?_ _) | (with_reducible refine Ext.setCell ?_ (by simp; try omega) _) | (with_reducible refine Ext.trans ?_ (by assumption)) | (with_reducible assumption) | exact Below.refl _ _))
  have sS : wS.heap.size = w.heap.size + 3 := by rw [hwS]; simp
  have cS : wS.cell? ⟨w.heap.size + 1 + 1, 0, none⟩ = some (.slice m n cap) := by rw [hwS]; simp [go_sem]
  have cM : wS.cell? ⟨w.heap.size + 1, 0, none⟩ = some (.map (some w.heap.size)) := by rw [hwS]; simp [go_sem]
  have hs1 : w.heap.size + 3 ≤ wS.heap.size := by omega
  clear sS
  have hU0 : UpW (dnP f []) w.heap.size wS.heap.size 0 wS := by
    rw [hwS]
    exact ((UpW.start _ (fun o c t _ => dnP_nil _ o c t) w _).below (by (repeat (first | (with_reducible exact Below.refl _ _) | (with_reducible refine Ext.drewN ?_ _) | (with_reducible refine Below.drew ?_) | (with_reducible refine Ext.alloc ?_ _) | (with_reducible refine Ext.setCell ?_ (by simp; try omega) _) | (with_reducible refine Ext.trans ?_ (by assumption)) | (with_reducible assumption) | exact Below.refl _ _)))).below (by (repeat (first | (with_reducible exact Below.refl _ _) | (with_reducible refine Ext.drewN ?_ _) | (with_reducible refine Below.drew ?_) | (with_reducible refine Ext.alloc ?_ _) | (with_reducible refine Ext.setCell ?_ (by simp; try omega) _) | (with_reducible refine Ext.trans ?_ (by assumption)) | (with_reducible assumption) | exact Below.refl _ _)))
  have RS := Lib.hid (hR.ext bwS)
  have HOK := Lib.hid hok
  have HD := Lib.hid hD
  have hdz := hD.deb.size
  have hsort := rowsQ_inc hok
  have hrow := fun e he => rowsQ_ok n P Q R S n (okR_all hok) e he
  have hlenL : (rowsQ n P Q R S n).length ≤ 80 := by
    have := inc_len (rowsQ n P Q R S n) (-40) hsort (fun e he => by have := (hrow e he).1; omega) (by omega)
    omega
  have HSORT := Lib.hid hsort
  have HROW := Lib.hid hrow
  obtain ⟨LL, hLL⟩ : ∃ LL, LL = rowsQ n P Q R S n := ⟨_, rfl⟩
  rw [← hLL] at hlenL
  have HF := Lib.hid hf
  have HLL := Lib.hid hLL
  rw [← hwS]
  clear hwS hok hsort hrow hf hD
  refine rangeU2 (gf := 145) (lb := #[.pointer (some ⟨w.heap.size + 1 + 1, 0, none⟩)]) rfl (enters_of Tryz.func145 (by kernel_rfl) rfl) (encs := fun e : RowE => #[.int .i64 e.1, colV e.2.1 e.2.2]) (L := LL) (fun k => k = w.heap.size) (fun k hk => by omega) wS.heap.size EdgeT (fun _ => False) ?hseq (fun _ => rfl)
    (fun ps V => UpW (dnP f ps) w.heap.size wS.heap.size (81 * ps.length) V ∧ V.cell? ⟨w.heap.size + 1, 0, none⟩ = some (.map (some w.heap.size)) ∧ Below w.heap.size w V)
    (fun _ _ _ => False)
    (fun s A B hs hb => ⟨hs.1.far hb (by omega), (hb.below.cell (p := ⟨w.heap.size + 1, 0, none⟩) (show w.heap.size + 1 < wS.heap.size by omega)).trans hs.2.1, hs.2.2.trans (hb.below.mono (by omega))⟩)
    (fun _ _ _ _ h _ => h)
    ⟨hU0, cM, bwS⟩
    (fun T e Bx => (((T.setIfInBounds 14 (.int .i64 e.1)).setIfInBounds 15 (colV e.2.1 e.2.2)).setIfInBounds 4 (.int .i64 e.1)).setIfInBounds 5 (.pointer (some ⟨Bx, 0, none⟩))) (fun e => .cells #[.int .u64 (e.2.1 : Int), .int .u64 (e.2.2 : Int)] 76) ?assign ?body ?done ?stop
  case hseq =>
    intro V hV hVs
    rw [hLL]
    exact rowsOf_seqU _ wS.heap.size EdgeT (by unfold EdgeT; decide) (w.heap.size + 1 + 1) m n cap n P Q R S V ((hV.cell (p := ⟨w.heap.size + 1 + 1, 0, none⟩) (show w.heap.size + 1 + 1 < wS.heap.size by omega)).trans cS) (fun k hk => by omega) hn hcap (Nat.le_refl _) (RS.out.ext hV) (fun h0 b off e => by
      obtain ⟨b1, o1, e1, h1, -⟩ := hR 0 h0
      rw [e1] at e
      cases e
      omega) (okR_all HOK.out)
  case assign =>
    intro l e V K hK
    gi_wp2
    exact hK
  case body =>
    rintro l ps e post Bx V hL hBx hVB ⟨hU, i2, i3⟩
    have hmem : e ∈ LL := by rw [hL]; simp
    have hmem' := hmem
    rw [HLL.out] at hmem'
    obtain ⟨⟨v1, v2⟩, v3, v4⟩ := HROW.out e hmem'
    have c0 : V.cell? ⟨Bx, 0, none⟩ = some (.int .u64 (e.2.1 : Int)) := by rw [cell_of_row _ _ 0 _ _ _ hVB]; rfl
    have c1 : V.cell? ⟨Bx, 1, none⟩ = some (.int .u64 (e.2.2 : Int)) := by rw [cell_of_row _ _ 1 _ _ _ hVB]; rfl
    have hVs : Bx < V.heap.size := (Array.getElem?_eq_some_iff.1 hVB).1
    have hDV : DebW V := HD.out.deb.below i3 hdz
    have hcol : ∀ c : Nat, c < 80 → colB e.2.1 e.2.2 c = hasB f ((c : Int) - 40) e.1 := fun c hc => by rw [HF.out]; exact rowsQ_has HOK.out e hmem' c hc
    have hsplit : ∀ (o : Nat), (o = 2 ∨ o = 3) → ∀ (c t : Int), dn f e.1 0 o c t = dnP f ps o c t ∧ dnP f (ps ++ [e]) o c t = dn f e.1 (runsL f e.1).length o c t := fun o ho c t =>
      dnP_row hL (by rw [HLL.out]; exact HSORT.out) (fun {o c t} ho hg => by rw [HF.out] at hg; rw [HLL.out]; exact rowsQ_side HOK.out ho hg) ho c t
    have hps : ps.length < 80 := by
      have := congrArg List.length hL
      simp only [List.length_append, List.length_cons] at this
      omega
    have hrl : (runsL f e.1).length ≤ 81 := runsTo_len f e.1 81
    obtain ⟨RL, hRL⟩ : ∃ RL, RL = runsL f e.1 := ⟨_, rfl⟩
    have HU := Lib.hid (hU.congr (fun o c t ho => (hsplit o ho c t).1) (Nat.le_refl _))
    have HSP := Lib.hid hsplit
    have HCOL := Lib.hid hcol
    have HRL := Lib.hid hRL
    have HL := Lib.hid hL
    have HVB := Lib.hid hVB
    rw [← hRL] at hrl
    clear hVB hL hmem hmem' hU hsplit hcol hRL
    dsimp only
    gi_wp2_with (refine ⟨trivial, ?_⟩; gi_at_call 101; refine (CallsIn.inRound l (callsIn_wide.2 (runs_any e.2.1 e.2.2 _ v3 v4 (by first | exact hDV | exact hDV.ext (by (repeat (first | (with_reducible exact Below.refl _ _) | (with_reducible refine Ext.drewN ?_ _) | (with_reducible refine Below.drew ?_) | (with_reducible refine Ext.alloc ?_ _) | (with_reducible refine Ext.setCell ?_ (by simp; try omega) _) | (with_reducible refine Ext.trans ?_ (by assumption)) | (with_reducible assumption) | exact Below.refl _ _)))) f e.1 HCOL.out))).mono ?_; rintro e9 W9 ⟨⟨h, cc, rfl, k1, k2⟩, bw9⟩; rw [← HRL.out] at k1 k2 ⊢)
    have hh9 := k1.1
    have hh9' := k1.lt
    have H9 := Lib.hid k1
    have k3 := keepC bw9 i2
    have U9 := Lib.hid (HU.out.below bw9)
    have j3 := i3.trans (bw9.mono i3.size)
    have sV := bw9.size
    have q0 : wS.heap.size + 2 ≤ V.heap.size := by omega
    have K9 : Kept (Ex (fun k => k = w.heap.size) wS.heap.size EdgeT V) V W9 := Kept.of_below bw9
    clear k1 bw9 i2 i3 hDV c0 c1 HU
    gi_loopw [19] (fun s19 wr => ∃ i : Nat, i ≤ RL.length ∧ s19 = .int .i64 (i : Int) ∧ Hid (UpW (dn f e.1 i) w.heap.size wS.heap.size (81 * ps.length + i) wr) ∧ wr.cell? ⟨w.heap.size + 1, 0, none⟩ = some (.map (some w.heap.size)) ∧ Hid (wr.heap[h]? = W9.heap[h]?) ∧ Below w.heap.size w wr ∧ W9.heap.size ≤ wr.heap.size ∧ Hid (Kept (Ex (fun k => k = w.heap.size) wS.heap.size EdgeT V) V wr)) (fun s19 _ => RL.length - (intOf s19).toNat)
    case atStart => exact ⟨0, by omega, rfl, U9, k3, Lib.hid rfl, j3, Nat.le_refl _, Lib.hid K9⟩
    case round =>
      obtain ⟨i, hi, rfl, UR, cm, HH, jw, hsz, KR⟩ := hrel
      by_cases hlt : i < RL.length
      · obtain ⟨x, hx⟩ : ∃ x, RL[i]? = some x := ⟨_, List.getElem?_eq_getElem hlt⟩
        have hx' : (runsL f e.1)[i]? = some x := by rw [← HRL.out]; exact hx
        obtain ⟨⟨x1, x2⟩, -⟩ := run_dir hx'
        have cx : wr.cell? ⟨h, i, none⟩ = some (.int .i64 x) := by
          rw [World.cell?_of_block (w := W9) HH.out]
          exact H9.out.2.2 i x hx
        have HX := Lib.hid hx'
        obtain ⟨D, M, Ed, hown, hM, hUI, hEd⟩ := UR.out
        have hbx : Bd x := ⟨by omega, by omega⟩
        have hby : Bd e.1 := ⟨by omega, by omega⟩
        have hby1 : Bd (e.1 - 1) := ⟨by omega, by omega⟩
        have HM := Lib.hid hM
        have HUI := Lib.hid hUI
        have HED := Lib.hid hEd
        have q1 : (i : Int) < (RL.length : Int) := by omega
        have q2 : (0 : Int) ≤ (i : Int) := by omega
        have q3 : IntKind.i64.wrap (e.1 + 1) = e.1 + 1 := by rw [IntKind.wrap_i64]; omega
        have q4 : IntKind.i64.wrap (e.1 - 1) = e.1 - 1 := by rw [IntKind.wrap_i64]; omega
        have hmbl : w.heap.size < wr.heap.size := hown.lt
        clear hx hx' hM hUI hEd
        rcases tmod2 i with hp | hp
        · obtain ⟨hp1, hp2, hp3⟩ := hp
          have HP3 := Lib.hid hp3
          clear hp2 hp3
          obtain ⟨sb, hsb⟩ : ∃ sb, sb = wr.heap.size := ⟨_, rfl⟩
          gi_wp2_with fail
          obtain ⟨wA, hwA⟩ : ∃ wA, wA = wr.alloc (.cells #[.int .i64 x, .int .i64 e.1, .int .i64 x, .int .i64 (e.1 + 1)] 32) := ⟨_, rfl⟩
          have bA : Below wr.heap.size wr wA := by rw [hwA]; (repeat (first | (with_reducible exact Below.refl _ _) | (with_reducible refine Ext.drewN ?_ _) | (with_reducible refine Below.drew ?_) | (with_reducible refine Ext.alloc ?_ _) | (with_reducible refine Ext.setCell ?_ (by simp; try omega) _) | (with_reducible refine Ext.trans ?_ (by assumption)) | (with_reducible assumption) | exact Below.refl _ _))
          have hA : wA.heap[wr.heap.size]? = some (eObj ⟨x, e.1, x, e.1 + 1⟩) := by rw [hwA]; exact heap_alloc_new wr _
          rw [← hwA]
          clear hwA
          have hS' : ∀ w', Below wA.heap.size wA w' → w'.heap[wr.heap.size]? = some (eObj ⟨x, e.1, x, e.1 + 1⟩) := fun w' h => (h.block _ (Array.getElem?_eq_some_iff.1 hA).1).trans hA
          have y0 : ∀ w', Below wA.heap.size wA w' → w'.cell? ⟨wr.heap.size, 0, none⟩ = some (.int .i64 x) := fun w' h => (eObj_cells (hS' w' h)).1.1
          have y1 : ∀ w', Below wA.heap.size wA w' → w'.cell? ⟨wr.heap.size, 1, none⟩ = some (.int .i64 e.1) := fun w' h => (eObj_cells (hS' w' h)).1.2.1
          have y2 : ∀ w', Below wA.heap.size wA w' → w'.cell? ⟨wr.heap.size, 2, none⟩ = some (.int .i64 x) := fun w' h => (eObj_cells (hS' w' h)).1.2.2.1
          have y3 : ∀ w', Below wA.heap.size wA w' → w'.cell? ⟨wr.heap.size, 3, none⟩ = some (.int .i64 (e.1 + 1)) := fun w' h => (eObj_cells (hS' w' h)).1.2.2.2
          have HS' := Lib.hid hS'
          clear hS' hA
          refine regionT (S := fun w' => Below wA.heap.size wA w') (tl := fun i => i == 5) (by kernel_rfl) ?_
          have hS := (show Below wA.heap.size wA wA.drew from (Below.refl _ _).drew)
          refine takeT (i := 0) (.agg #[.int .i64 x, .int .i64 e.1, .int .i64 x, .int .i64 (e.1 + 1)]) rfl (by kernel_rfl) (by kernel_rfl) (by kernel_rfl) (by kernel_rfl) (by kernel_rfl) (fun _ _ _ h => h) (by rfl) ?_ (fun _ => rfl) hS ?_
          · intro w' h9
            simp [go_sem, Act.put, y0 _ h9, y1 _ h9, y2 _ h9, y3 _ h9]
          simp only [go_sem, Act.put, List.getElem_toArray, List.getElem_cons_succ, List.getElem_cons_zero, List.setIfInBounds_toArray, List.set_cons_succ, List.set_cons_zero]
          refine takeT (i := 2) (.agg #[.int .i64 x, .int .i64 e.1, .int .i64 x, .int .i64 (e.1 + 1)]) rfl (by kernel_rfl) (by kernel_rfl) (by kernel_rfl) (by kernel_rfl) (by kernel_rfl) (fun _ _ _ h => h) (by rfl) ?_ (fun _ => rfl) hS ?_
          · intro w' h9
            simp [go_sem, Act.put, y0 _ h9, y1 _ h9, y2 _ h9, y3 _ h9]
          simp only [go_sem, Act.put, List.getElem_toArray, List.getElem_cons_succ, List.getElem_cons_zero, List.setIfInBounds_toArray, List.set_cons_succ, List.set_cons_zero]
          refine oneN (i := 1) (by kernel_rfl) (wpOpIn_step rfl fun K' hK' => ?_)
          rw [if_pos (by rfl)]
          refine ⟨fun _ _ => trivial, ?_⟩
          simp only [go_sem, Act.put]
          simp [go_sem, enters_of Tryz.func50 (by kernel_rfl) rfl]
          refine (CallsIn.inRound l (callsIn_wide.2 (eEnd_any x e.1 x (e.1 + 1) _))).mono ?_
          rintro r u ⟨rfl, bu⟩
          replace hS := Below.trans hS (bu.mono hS.size)
          clear bu
          dsimp only
          refine hK' _ _ ⟨hS, ?_⟩
          clear hK'
          refine oneN (i := 3) (by kernel_rfl) (wpOpIn_step rfl fun K' hK' => ?_)
          rw [if_pos (by rfl)]
          refine ⟨fun _ _ => trivial, ?_⟩
          simp only [go_sem, Act.put]
          simp [go_sem, enters_of Tryz.func49 (by kernel_rfl) rfl]
          refine (CallsIn.inRound l (callsIn_wide.2 (eBegin_any x e.1 x (e.1 + 1) _))).mono ?_
          rintro r u ⟨rfl, bu⟩
          replace hS := Below.trans hS (bu.mono hS.size)
          clear bu
          dsimp only
          refine hK' _ _ ⟨hS, ?_⟩
          clear hK'
          refine oneN (i := 4) (by kernel_rfl) (wpOpIn_step rfl fun K' hK' => ?_)
          rw [if_pos (by rfl)]
          refine ⟨fun _ _ => trivial, ?_⟩
          simp only [go_sem, Act.put]
          simp [go_sem, enters_of Tryz.func63 (by kernel_rfl) rfl]
          refine (CallsIn.inRound l (callsIn_wide.2 (edgeBetween_any x (e.1 + 1) x e.1 _))).mono ?_
          rintro r u ⟨rfl, bu⟩
          replace hS := Below.trans hS (bu.mono hS.size)
          clear bu
          dsimp only
          refine hK' _ _ ⟨hS, ?_⟩
          clear hK'
          refine oneT (i := 5) (by kernel_rfl) rfl (wpOpIn_step rfl fun K' hK' => ?_)
          rw [if_pos (by rfl)]
          refine ⟨fun _ _ => trivial, ?_⟩
          obtain ⟨f0, f1, f2, f3⟩ := (eObj_cells (HS'.out _ hS)).2
          have z0 := y0 _ hS
          have z1 := y1 _ hS
          have z2 := y2 _ hS
          have z3 := y3 _ hS
          simp [go_sem, Act.put, f0, f1, f2, f3, z0, z1, z2, z3]
          refine hK' _ _ ?_
          clear hK'
          refine doneT (by kernel_rfl) ?_ _
          rename World => uu
          obtain ⟨wB, hwB⟩ : ∃ wB, wB = (((uu.setCell ⟨wr.heap.size, 0, none⟩ (.int .i64 x)).setCell ⟨wr.heap.size, 1, none⟩ (.int .i64 (e.1 + 1))).setCell ⟨wr.heap.size, 2, none⟩ (.int .i64 x)).setCell ⟨wr.heap.size, 3, none⟩ (.int .i64 e.1) := ⟨_, rfl⟩
          have hB : wB.heap[wr.heap.size]? = some (eObj ⟨x, e.1 + 1, x, e.1⟩) := by rw [hwB]; exact eObj_set (HS'.out _ hS) ⟨x, e.1 + 1, x, e.1⟩
          have bB : Below wr.heap.size wr wB := by
            rw [hwB]
            exact Ext.setCell (Ext.setCell (Ext.setCell (Ext.setCell (Ext.trans bA hS) (Nat.le_refl _) _) (Nat.le_refl _) _) (Nat.le_refl _) _) (Nat.le_refl _) _
          rw [← hwB]
          clear hwB y0 y1 y2 y3 HS' hS bA f0 f1 f2 f3 z0 z1 z2 z3
          have hownB := ownsMap_block hown (bB.block _ hmbl)
          obtain ⟨⟨b0, b1, b2, b3⟩, -⟩ := eObj_cells hB
          have cmB : wB.cell? ⟨w.heap.size + 1, 0, none⟩ = some (.map (some w.heap.size)) := keepC bB cm
          have sbl : wr.heap.size < wB.heap.size := (Array.getElem?_eq_some_iff.1 hB).1
          have HBB := Lib.hid hB
          have BB := Lib.hid bB
          clear hB bB
          have BB' := BB.out
          cases hm : M x (e.1 - 1) with
          | none =>
            have hhas : Maps.has D (klP x (e.1 - 1)) = false := by rw [HM.out.has _ _ hbx hby1, hm]; rfl
            have HMN := Lib.hid hm
            clear hm
            gi_wp2_with (first | (gi_at_lookup; refine lookP_none _ rfl _ _ rfl w.heap.size _ D rfl hownB rfl hbx hby1 hhas ?_) | (gi_at_mapUpdate; refine putP _ rfl _ _ _ rfl w.heap.size _ D rfl hownB (by unfold maxLen; omega) rfl hbx hby wr.heap.size rfl ?_; intro w5 hown5 hgr5) | (refine ⟨trivial, ?_⟩))
            have KW : Kept (fun k => k = w.heap.size ∨ k = wr.heap.size) wr w5 := ((Kept.of_below BB.out).trans (kept_grow hgr5))
            obtain ⟨e1, e2, e3, e4⟩ := up_end KW (.inl (Nat.le_refl _)) (by omega) (by omega) cm H9.out HH.out (by omega) jw KR.out
            have UP : Hid (UpW (dn f e.1 (i + 1)) w.heap.size wS.heap.size (81 * ps.length + i + 1) w5) := Lib.hid (UpW.fresh HX.out hbx hby HM.out HUI.out HED.out (HUI.out.none HMN.out (oI_or i)) (by omega) (Nat.le_refl _) hown5 (by rw [HP3.out, hgr5.block _ (Array.getElem?_eq_some_iff.1 HBB.out).1 (fun e9 => by simp at e9; omega)]; exact HBB.out) (fun j e9 hj => by rw [hgr5.block _ (Nat.lt_of_lt_of_le (Array.getElem?_eq_some_iff.1 hj).1 BB.out.size) (fun e8 => by obtain rfl := Option.some.inj e8; obtain ⟨es, ck, h1, -⟩ := hown; rw [h1] at hj; cases hj)]; exact BB.out.block _ (Array.getElem?_eq_some_iff.1 hj).1))
            have E2 := Lib.hid e2
            have E4 := Lib.hid e4
            have hs5 := KW.size
            clear e2 e4 KW hown5 hgr5
            gi_wp2
            go_roundw
            case rel => exact ⟨i + 1, by omega, by go_num, UP, e1, E2, e3, by omega, E4⟩
            case measure => simp [intOf]; omega
          | some b =>
            obtain ⟨o1, lo, ho1, hlo, hE, hd1⟩ := HUI.out.below HX.out hm
            have hhas : Maps.has D (klP x (e.1 - 1)) = true := by rw [HM.out.has _ _ hbx hby1, hm]; rfl
            have hval := HM.out.val _ _ b hbx hby1 hm .nil
            have hbE : wB.heap[b]? = some (eObj (mkE o1 x lo e.1)) := by rw [← hE]; exact (BB.out.block _ (Array.getElem?_eq_some_iff.1 (HED.out _ _ _ hm).2).1).trans (HED.out _ _ _ hm).2
            have hbn := (HED.out _ _ _ hm).1
            have hbr := (HED.out _ _ _ hm).2
            have hbl : b < wr.heap.size := (Array.getElem?_eq_some_iff.1 hbr).1
            have HMB := Lib.hid hm
            have HE := Lib.hid hE
            have HBE := Lib.hid hbE
            have HBR := Lib.hid hbr
            have HD1 := Lib.hid hd1
            clear hm hE hbE hbr hd1
            by_cases ho : o1 = oI i
            · rw [HP3.out] at ho
              subst ho
              gi_wp2_with (first | (gi_at_lookup; refine lookP_some _ rfl _ _ rfl w.heap.size _ D rfl hownB rfl hbx hby1 b hhas hval ?_) | (refine ⟨trivial, ?_⟩; gi_at_call 124; refine (CallsIn.inRound l (callsIn_wide.2 (extend_2 b (mkE 3 x lo e.1) ⟨x, e.1 + 1, x, e.1⟩ _ (HBE.out) (by simp [mkE]; omega) (by rfl) (by rfl)))).mono ?_; rintro e8 wC ⟨rfl, hC, KC⟩; have cmC : wC.cell? ⟨w.heap.size + 1, 0, none⟩ = some (.map (some w.heap.size)) := (KC.cell (p := ⟨w.heap.size + 1, 0, none⟩) (World.block_lt_of_cell? _ ⟨w.heap.size + 1, 0, none⟩ cmB) (show ¬ w.heap.size + 1 = b by omega)).trans cmB; have hownC := ownsMap_block hownB (KC.block _ hownB.lt (show ¬ w.heap.size = b by omega)); have HC := Lib.hid hC; have KC' := Lib.hid KC; clear hC KC) | (gi_at_mapUpdate; refine putP _ rfl _ _ _ rfl w.heap.size _ D rfl hownC (by unfold maxLen; omega) rfl hbx hby b rfl ?_; intro w5 hown5 hgr5))
              have KC := KC'.out
              have hCm : wC.heap[b]? = some (eObj (mkE (oI i) x lo (e.1 + 1))) := by rw [HP3.out]; exact HC.out
              have KW : Kept (fun k => k = w.heap.size ∨ k = b) wr w5 := (((Kept.of_below BB.out).trans (KC.mono (fun k _ h => .inr h))).trans (kept_grow hgr5))
              obtain ⟨e1, e2, e3, e4⟩ := up_end KW (.inr ⟨_, hbn, HBR.out⟩) (by omega) (by omega) cm H9.out HH.out (by omega) jw KR.out
              have UP : Hid (UpW (dn f e.1 (i + 1)) w.heap.size wS.heap.size (81 * ps.length + i + 1) w5) := Lib.hid (UpW.join HX.out hbx hby HM.out HUI.out HED.out HMB.out (by rw [HE.out, HP3.out]) hlo hown5 (by rw [hgr5.block _ (Array.getElem?_eq_some_iff.1 hCm).1 (fun e9 => by simp at e9; omega)]; exact hCm) (fun j e9 hjb hj => by rw [hgr5.block _ (Nat.lt_of_lt_of_le (Nat.lt_of_lt_of_le (Array.getElem?_eq_some_iff.1 hj).1 BB.out.size) KC.size) (fun e8 => by obtain rfl := Option.some.inj e8; obtain ⟨es, ck, h1, -⟩ := hown; rw [h1] at hj; cases hj), KC.block _ (Nat.lt_of_lt_of_le (Array.getElem?_eq_some_iff.1 hj).1 BB.out.size) hjb]; exact BB.out.block _ (Array.getElem?_eq_some_iff.1 hj).1))
              have E2 := Lib.hid e2
              have E4 := Lib.hid e4
              have hs5 := KW.size
              clear e2 e4 KW hown5 hgr5
              gi_wp2
              go_roundw
              case rel => exact ⟨i + 1, by omega, by go_num, UP, e1, E2, e3, by omega, E4⟩
              case measure => simp [intOf]; omega
            · have ho9 : o1 = 2 := by rcases ho1 with h9 | h9 <;> rcases oI_or i with h8 | h8 <;> rw [HP3.out] at ho <;> omega
              subst ho9
              have hlow : dn f e.1 i (oI i) x (e.1 - 1) = false := dn_excl ho1 (oI_or i) HD1.out (fun h9 => ho h9.symm)
              have HLOW := Lib.hid hlow
              clear hlow ho
              gi_wp2_with (first | (gi_at_lookup; refine lookP_some _ rfl _ _ rfl w.heap.size _ D rfl hownB rfl hbx hby1 b hhas hval ?_) | (refine ⟨trivial, ?_⟩; gi_at_call 124; refine (CallsIn.inRound l (callsIn_wide.2 (extend_0 b (mkE 2 x lo e.1) ⟨x, e.1 + 1, x, e.1⟩ _ (HBE.out) (by simp [mkE]; omega) (by simp [mkE]; omega)))).mono ?_; rintro e8 wC ⟨rfl, KC⟩; have cmC : wC.cell? ⟨w.heap.size + 1, 0, none⟩ = some (.map (some w.heap.size)) := keepC KC cmB; have hownC := ownsMap_block hownB (KC.block _ hownB.lt); have KC' := Lib.hid KC; clear KC) | (gi_at_mapUpdate; refine putP _ rfl _ _ _ rfl w.heap.size _ D rfl hownC (by unfold maxLen; omega) rfl hbx hby wr.heap.size rfl ?_; intro w5 hown5 hgr5))
              have KC := KC'.out
              have hCm : wC.heap[wr.heap.size]? = some (eObj (mkE (oI i) x e.1 (e.1 + 1))) := by rw [HP3.out, KC.block _ (Array.getElem?_eq_some_iff.1 HBB.out).1]; exact HBB.out
              have KW : Kept (fun k => k = w.heap.size ∨ k = wr.heap.size) wr w5 := ((Kept.of_below (Ext.trans BB.out KC)).trans (kept_grow hgr5))
              obtain ⟨e1, e2, e3, e4⟩ := up_end KW (.inl (Nat.le_refl _)) (by omega) (by omega) cm H9.out HH.out (by omega) jw KR.out
              have UP : Hid (UpW (dn f e.1 (i + 1)) w.heap.size wS.heap.size (81 * ps.length + i + 1) w5) := Lib.hid (UpW.fresh HX.out hbx hby HM.out HUI.out HED.out HLOW.out (by omega) (Nat.le_refl _) hown5 (by rw [hgr5.block _ (Array.getElem?_eq_some_iff.1 hCm).1 (fun e9 => by simp at e9; omega)]; exact hCm) (fun j e9 hj => by rw [hgr5.block _ (Nat.lt_of_lt_of_le (Nat.lt_of_lt_of_le (Array.getElem?_eq_some_iff.1 hj).1 BB.out.size) KC.size) (fun e8 => by obtain rfl := Option.some.inj e8; obtain ⟨es, ck, h1, -⟩ := hown; rw [h1] at hj; cases hj), KC.block _ (Nat.lt_of_lt_of_le (Array.getElem?_eq_some_iff.1 hj).1 BB.out.size)]; exact BB.out.block _ (Array.getElem?_eq_some_iff.1 hj).1))
              have E2 := Lib.hid e2
              have E4 := Lib.hid e4
              have hs5 := KW.size
              clear e2 e4 KW hown5 hgr5
              gi_wp2
              go_roundw
              case rel => exact ⟨i + 1, by omega, by go_num, UP, e1, E2, e3, by omega, E4⟩
              case measure => simp [intOf]; omega
        · obtain ⟨hp1, hp2, hp3⟩ := hp
          have HP3 := Lib.hid hp3
          clear hp2 hp3
          obtain ⟨sb, hsb⟩ : ∃ sb, sb = wr.heap.size := ⟨_, rfl⟩
          obtain ⟨wB, hwB⟩ : ∃ wB, wB = wr.alloc (.cells #[.int .i64 x, .int .i64 e.1, .int .i64 x, .int .i64 (e.1 + 1)] 32) := ⟨_, rfl⟩
          have bB : Below wr.heap.size wr wB := by rw [hwB]; (repeat (first | (with_reducible exact Below.refl _ _) | (with_reducible refine Ext.drewN ?_ _) | (with_reducible refine Below.drew ?_) | (with_reducible refine Ext.alloc ?_ _) | (with_reducible refine Ext.setCell ?_ (by simp; try omega) _) | (with_reducible refine Ext.trans ?_ (by assumption)) | (with_reducible assumption) | exact Below.refl _ _))
          have hB : wB.heap[wr.heap.size]? = some (eObj ⟨x, e.1, x, e.1 + 1⟩) := by rw [hwB]; exact heap_alloc_new wr _
          have hownB := ownsMap_block hown (bB.block _ hmbl)
          obtain ⟨⟨b0, b1, b2, b3⟩, -⟩ := eObj_cells hB
          have cmB : wB.cell? ⟨w.heap.size + 1, 0, none⟩ = some (.map (some w.heap.size)) := keepC bB cm
          have sbl : wr.heap.size < wB.heap.size := (Array.getElem?_eq_some_iff.1 hB).1
          have HBB := Lib.hid hB
          have BB := Lib.hid bB
          clear hB bB
          rw [hwB] at b0 b1 b2 b3 cmB sbl hownB
          have HWB := Lib.hid hwB
          clear hwB
          have BB' := BB.out
          cases hm : M x (e.1 - 1) with
          | none =>
            have hhas : Maps.has D (klP x (e.1 - 1)) = false := by rw [HM.out.has _ _ hbx hby1, hm]; rfl
            have HMN := Lib.hid hm
            clear hm
            gi_wp2_with (first | (gi_at_lookup; refine lookP_none _ rfl _ _ rfl w.heap.size _ D rfl hownB rfl hbx hby1 hhas ?_) | (gi_at_mapUpdate; refine putP _ rfl _ _ _ rfl w.heap.size _ D rfl hownB (by unfold maxLen; omega) rfl hbx hby wr.heap.size rfl ?_; intro w5 hown5 hgr5) | (refine ⟨trivial, ?_⟩))
            rw [← HWB.out] at hgr5
            have KW : Kept (fun k => k = w.heap.size ∨ k = wr.heap.size) wr w5 := ((Kept.of_below BB.out).trans (kept_grow hgr5))
            obtain ⟨e1, e2, e3, e4⟩ := up_end KW (.inl (Nat.le_refl _)) (by omega) (by omega) cm H9.out HH.out (by omega) jw KR.out
            have UP : Hid (UpW (dn f e.1 (i + 1)) w.heap.size wS.heap.size (81 * ps.length + i + 1) w5) := Lib.hid (UpW.fresh HX.out hbx hby HM.out HUI.out HED.out (HUI.out.none HMN.out (oI_or i)) (by omega) (Nat.le_refl _) hown5 (by rw [HP3.out, hgr5.block _ (Array.getElem?_eq_some_iff.1 HBB.out).1 (fun e9 => by simp at e9; omega)]; exact HBB.out) (fun j e9 hj => by rw [hgr5.block _ (Nat.lt_of_lt_of_le (Array.getElem?_eq_some_iff.1 hj).1 BB.out.size) (fun e8 => by obtain rfl := Option.some.inj e8; obtain ⟨es, ck, h1, -⟩ := hown; rw [h1] at hj; cases hj)]; exact BB.out.block _ (Array.getElem?_eq_some_iff.1 hj).1))
            have E2 := Lib.hid e2
            have E4 := Lib.hid e4
            have hs5 := KW.size
            clear e2 e4 KW hown5 hgr5
            gi_wp2
            go_roundw
            case rel => exact ⟨i + 1, by omega, by go_num, UP, e1, E2, e3, by omega, E4⟩
            case measure => simp [intOf]; omega
          | some b =>
            obtain ⟨o1, lo, ho1, hlo, hE, hd1⟩ := HUI.out.below HX.out hm
            have hhas : Maps.has D (klP x (e.1 - 1)) = true := by rw [HM.out.has _ _ hbx hby1, hm]; rfl
            have hval := HM.out.val _ _ b hbx hby1 hm .nil
            have hbE : wB.heap[b]? = some (eObj (mkE o1 x lo e.1)) := by rw [← hE]; exact (BB.out.block _ (Array.getElem?_eq_some_iff.1 (HED.out _ _ _ hm).2).1).trans (HED.out _ _ _ hm).2
            have hbn := (HED.out _ _ _ hm).1
            have hbr := (HED.out _ _ _ hm).2
            have hbl : b < wr.heap.size := (Array.getElem?_eq_some_iff.1 hbr).1
            have HMB := Lib.hid hm
            have HE := Lib.hid hE
            have HBE := Lib.hid hbE
            have HBR := Lib.hid hbr
            have HD1 := Lib.hid hd1
            clear hm hE hbE hbr hd1
            by_cases ho : o1 = oI i
            · rw [HP3.out] at ho
              subst ho
              gi_wp2_with (first | (gi_at_lookup; refine lookP_some _ rfl _ _ rfl w.heap.size _ D rfl hownB rfl hbx hby1 b hhas hval ?_) | (refine ⟨trivial, ?_⟩; gi_at_call 124; refine (CallsIn.inRound l (callsIn_wide.2 (extend_1 b (mkE 2 x lo e.1) ⟨x, e.1, x, e.1 + 1⟩ _ (by rw [← HWB.out]; exact HBE.out) (by rfl) (by rfl)))).mono ?_; rintro e8 wC ⟨rfl, hC, KC⟩; have cmC : wC.cell? ⟨w.heap.size + 1, 0, none⟩ = some (.map (some w.heap.size)) := (KC.cell (p := ⟨w.heap.size + 1, 0, none⟩) (World.block_lt_of_cell? _ ⟨w.heap.size + 1, 0, none⟩ cmB) (show ¬ w.heap.size + 1 = b by omega)).trans cmB; have hownC := ownsMap_block hownB (KC.block _ hownB.lt (show ¬ w.heap.size = b by omega)); have HC := Lib.hid hC; have KC' := Lib.hid KC; clear hC KC) | (gi_at_mapUpdate; refine putP _ rfl _ _ _ rfl w.heap.size _ D rfl hownC (by unfold maxLen; omega) rfl hbx hby b rfl ?_; intro w5 hown5 hgr5))
              have KC := KC'.out
              rw [← HWB.out] at KC
              have hCm : wC.heap[b]? = some (eObj (mkE (oI i) x lo (e.1 + 1))) := by rw [HP3.out]; exact HC.out
              have KW : Kept (fun k => k = w.heap.size ∨ k = b) wr w5 := (((Kept.of_below BB.out).trans (KC.mono (fun k _ h => .inr h))).trans (kept_grow hgr5))
              obtain ⟨e1, e2, e3, e4⟩ := up_end KW (.inr ⟨_, hbn, HBR.out⟩) (by omega) (by omega) cm H9.out HH.out (by omega) jw KR.out
              have UP : Hid (UpW (dn f e.1 (i + 1)) w.heap.size wS.heap.size (81 * ps.length + i + 1) w5) := Lib.hid (UpW.join HX.out hbx hby HM.out HUI.out HED.out HMB.out (by rw [HE.out, HP3.out]) hlo hown5 (by rw [hgr5.block _ (Array.getElem?_eq_some_iff.1 hCm).1 (fun e9 => by simp at e9; omega)]; exact hCm) (fun j e9 hjb hj => by rw [hgr5.block _ (Nat.lt_of_lt_of_le (Nat.lt_of_lt_of_le (Array.getElem?_eq_some_iff.1 hj).1 BB.out.size) KC.size) (fun e8 => by obtain rfl := Option.some.inj e8; obtain ⟨es, ck, h1, -⟩ := hown; rw [h1] at hj; cases hj), KC.block _ (Nat.lt_of_lt_of_le (Array.getElem?_eq_some_iff.1 hj).1 BB.out.size) hjb]; exact BB.out.block _ (Array.getElem?_eq_some_iff.1 hj).1))
              have E2 := Lib.hid e2
              have E4 := Lib.hid e4
              have hs5 := KW.size
              clear e2 e4 KW hown5 hgr5
              gi_wp2
              go_roundw
              case rel => exact ⟨i + 1, by omega, by go_num, UP, e1, E2, e3, by omega, E4⟩
              case measure => simp [intOf]; omega
            · have ho9 : o1 = 3 := by rcases ho1 with h9 | h9 <;> rcases oI_or i with h8 | h8 <;> rw [HP3.out] at ho <;> omega
              subst ho9
              have hlow : dn f e.1 i (oI i) x (e.1 - 1) = false := dn_excl ho1 (oI_or i) HD1.out (fun h9 => ho h9.symm)
              have HLOW := Lib.hid hlow
              clear hlow ho
              gi_wp2_with (first | (gi_at_lookup; refine lookP_some _ rfl _ _ rfl w.heap.size _ D rfl hownB rfl hbx hby1 b hhas hval ?_) | (refine ⟨trivial, ?_⟩; gi_at_call 124; refine (CallsIn.inRound l (callsIn_wide.2 (extend_0 b (mkE 3 x lo e.1) ⟨x, e.1, x, e.1 + 1⟩ _ (by rw [← HWB.out]; exact HBE.out) (by simp [mkE]; omega) (by simp [mkE]; omega)))).mono ?_; rintro e8 wC ⟨rfl, KC⟩; have cmC : wC.cell? ⟨w.heap.size + 1, 0, none⟩ = some (.map (some w.heap.size)) := keepC KC cmB; have hownC := ownsMap_block hownB (KC.block _ hownB.lt); have KC' := Lib.hid KC; clear KC) | (gi_at_mapUpdate; refine putP _ rfl _ _ _ rfl w.heap.size _ D rfl hownC (by unfold maxLen; omega) rfl hbx hby wr.heap.size rfl ?_; intro w5 hown5 hgr5))
              have KC := KC'.out
              rw [← HWB.out] at KC
              have hCm : wC.heap[wr.heap.size]? = some (eObj (mkE (oI i) x e.1 (e.1 + 1))) := by rw [HP3.out, KC.block _ (Array.getElem?_eq_some_iff.1 HBB.out).1]; exact HBB.out
              have KW : Kept (fun k => k = w.heap.size ∨ k = wr.heap.size) wr w5 := ((Kept.of_below (Ext.trans BB.out KC)).trans (kept_grow hgr5))
              obtain ⟨e1, e2, e3, e4⟩ := up_end KW (.inl (Nat.le_refl _)) (by omega) (by omega) cm H9.out HH.out (by omega) jw KR.out
              have UP : Hid (UpW (dn f e.1 (i + 1)) w.heap.size wS.heap.size (81 * ps.length + i + 1) w5) := Lib.hid (UpW.fresh HX.out hbx hby HM.out HUI.out HED.out HLOW.out (by omega) (Nat.le_refl _) hown5 (by rw [hgr5.block _ (Array.getElem?_eq_some_iff.1 hCm).1 (fun e9 => by simp at e9; omega)]; exact hCm) (fun j e9 hj => by rw [hgr5.block _ (Nat.lt_of_lt_of_le (Nat.lt_of_lt_of_le (Array.getElem?_eq_some_iff.1 hj).1 BB.out.size) KC.size) (fun e8 => by obtain rfl := Option.some.inj e8; obtain ⟨es, ck, h1, -⟩ := hown; rw [h1] at hj; cases hj), KC.block _ (Nat.lt_of_lt_of_le (Array.getElem?_eq_some_iff.1 hj).1 BB.out.size)]; exact BB.out.block _ (Array.getElem?_eq_some_iff.1 hj).1))
              have E2 := Lib.hid e2
              have E4 := Lib.hid e4
              have hs5 := KW.size
              clear e2 e4 KW hown5 hgr5
              gi_wp2
              go_roundw
              case rel => exact ⟨i + 1, by omega, by go_num, UP, e1, E2, e3, by omega, E4⟩
              case measure => simp [intOf]; omega
      · have q1 : ¬ (i : Int) < (RL.length : Int) := by omega
        obtain rfl : i = RL.length := by omega
        have hU8 := UR.out.congr (d' := dnP f (ps ++ [e])) (k' := 81 * (ps ++ [e]).length) (fun o c t ho => by rw [HRL.out]; exact (HSP.out o ho c t).2) (by simp; omega)
        have HU8 := Lib.hid hU8
        clear hU8
        gi_wp2
        exact ⟨KR.out, HU8.out, cm, jw⟩
  case done =>
    rintro D V hDq ⟨hU, i2, i3⟩ hDV
    have hUe : UpW (gS f) w.heap.size w.heap.size (81 * LL.length) V := by
      obtain ⟨D', M, Ed, h1, h2, h3, h4⟩ := hU
      refine ⟨D', M, Ed, h1, h2, h3.congr (fun o c t ho => ?_), fun c t b hb => ⟨Nat.le_trans (by omega) (h4 c t b hb).1, (h4 c t b hb).2⟩⟩
      exact (dnP_all (fun {o c t} ho hg => by rw [HF.out] at hg; rw [HLL.out]; exact rowsQ_side HOK.out ho hg) ho c t).symm
    have HUE := Lib.hid hUe
    clear hU hUe
    dsimp only
    go_wp2_with fail
    refine leaves_one (D := D) (v := .map (some w.heap.size)) hDV (fun w' hw' => ?_)
    refine ⟨by clear hw'; simp [results, Tryz.results91, go_sem], ⟨_, 81 * LL.length, rfl, Nat.le_refl _, by omega, ?_⟩, ?_⟩
    · rw [hw']
      have hDb : D ≠ w.heap.size := by omega
      exact HUE.out.step (World.putObj_heap_other (Ne.symm hDb)) (fun b e _ he => World.putObj_heap_other (fun hb => by rw [hb, hDV] at he; cases he))
    · rw [hw']
      exact i3.trans (below_putObj _ _ (by omega))
  case stop =>
    intro D c ps V _ _ h _
    exact h.elim
end Go.Proofs.YtmabdemdapnmkaaGreatDoor
