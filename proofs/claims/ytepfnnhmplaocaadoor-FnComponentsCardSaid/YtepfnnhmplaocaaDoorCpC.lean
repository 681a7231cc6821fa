/- The model's parts of a set. Conditions: the flags' cells are in memory. -/
import Derived.Test.YtepfnnhmplaocaaDoorCpB
import Derived.Maps.AppendAt
namespace Go.Proofs.YtepfnnhmplaocaaDoor
open Go.RowKit
set_option linter.unusedVariables false
set_option linter.unusedSimpArgs false
attribute [local go_sem ↓] Go.wp_at_zero Go.wp_at_succ

theorem infoSB : (Tryd.prog.info? 50).map (fun i => (i.zero, i.size, i.bytes)) = some (some (.slice none 0 0), 1, 24) := by kernel_rfl
/-- Flags in block g, as a value. -/
def slB (g : Nat) : Value := .slice (some ⟨g, 0, none⟩) 6400 6400
/-- The flags of the parts that begin at L lie in the blocks G. -/
def PartsAt (w : World) (f : Nat → Bool) (wide : Bool) (G L : List Nat) : Prop := G.length = L.length ∧ ∀ (i g s : Nat), G[i]? = some g → L[i]? = some s → BitsIs w g (partF f wide (cxN s) (cyN s))
theorem PartsAt.nil (w : World) (f : Nat → Bool) (wide : Bool) : PartsAt w f wide [] [] := ⟨rfl, fun i g s h => by simp at h⟩
theorem PartsAt.below {w w' : World} {f : Nat → Bool} {wide : Bool} {G L : List Nat} (h : PartsAt w f wide G L) (hb : Below w.heap.size w w') : PartsAt w' f wide G L := ⟨h.1, fun i g s h1 h2 => (h.2 i g s h1 h2).below hb⟩
theorem PartsAt.lt {w : World} {f : Nat → Bool} {wide : Bool} {G L : List Nat} (h : PartsAt w f wide G L) {g : Nat} (hg : g ∈ G) : g < w.heap.size := by
  obtain ⟨i, hi⟩ := List.getElem?_of_mem hg
  have hl : i < L.length := by rw [← h.1]; exact (List.getElem?_eq_some_iff.1 hi).1
  exact (h.2 i g _ hi (List.getElem?_eq_getElem hl)).lt
theorem PartsAt.snoc {w : World} {f : Nat → Bool} {wide : Bool} {G L : List Nat} (h : PartsAt w f wide G L) {g s : Nat} (hb : BitsIs w g (partF f wide (cxN s) (cyN s))) : PartsAt w f wide (G ++ [g]) (L ++ [s]) := by
  refine ⟨by simp [h.1], fun i a b h1 h2 => ?_⟩
  by_cases hi : i < G.length
  · rw [List.getElem?_append_left hi] at h1
    rw [List.getElem?_append_left (by rw [← h.1]; exact hi)] at h2
    exact h.2 i a b h1 h2
  · have hg := (List.getElem?_eq_some_iff.1 h1).1
    rw [List.length_append, List.length_singleton] at hg
    obtain rfl : i = G.length := by omega
    rw [List.getElem?_append_right (Nat.le_refl _)] at h1
    rw [h.1, List.getElem?_append_right (Nat.le_refl _)] at h2
    simp at h1 h2
    subst h1 h2
    exact hb
theorem PartsAt.grown {w w' : World} {f : Nat → Bool} {wide : Bool} {G L : List Nat} (h : PartsAt w f wide G L) {row : Option Nat} (hg : w.grownBy w' row) (hne : ∀ g, g ∈ G → some g ≠ row) : PartsAt w' f wide G L :=
  ⟨h.1, fun i g s h1 h2 => (h.2 i g s h1 h2).grown hg (hne g (List.mem_of_getElem? h1))⟩
/-- The cells of the parts that begin at L. -/
noncomputable def doneF (f : Nat → Bool) (wide : Bool) (L : List Nat) (j : Nat) : Bool := L.any fun s => partF f wide (cxN s) (cyN s) j
theorem doneF_snoc (f : Nat → Bool) (wide : Bool) (L : List Nat) (s j : Nat) : tt 14 (doneF f wide L j) (partF f wide (cxN s) (cyN s) j) = doneF f wide (L ++ [s]) j := by
  unfold doneF
  rw [List.any_append]
  cases (L.any fun s => partF f wide (cxN s) (cyN s) j) <;> cases h : partF f wide (cxN s) (cyN s) j <;> simp [tt, h]
theorem startsTo_yes {f : Nat → Bool} {wide : Bool} {k : Nat} (h1 : f k = true) (h2 : doneF f wide (startsTo f wide k) k = false) : startsTo f wide (k + 1) = startsTo f wide k ++ [k] := by
  rw [startsTo, if_pos (by rw [h1]; unfold doneF at h2; rw [h2]; rfl)]
theorem startsTo_no {f : Nat → Bool} {wide : Bool} {k : Nat} (h : f k = false ∨ doneF f wide (startsTo f wide k) k = true) : startsTo f wide (k + 1) = startsTo f wide k := by
  rw [startsTo, if_neg]
  rcases h with h | h
  · simp [h]
  · unfold doneF at h; simp only [h]; simp
/-- A call that hands back the parts of a set. -/
def PartsRes (B : Nat) (f : Nat → Bool) (wide : Bool) (e : Ending) (w : World) : Prop := ∃ h c G, (B ≤ h ∧ h < w.heap.size ∧ ∀ g, g ∈ G → B ≤ g) ∧ e = .returned (.slice (some ⟨h, 0, none⟩) G.length c) ∧ PartsAt w f wide G (startsTo f wide 6400) ∧ (∀ (i g : Nat), G[i]? = some g → w.cell? ⟨h, i, none⟩ = some (slB g))
theorem slB_next {W : World} {B : Nat} {v : Value} {n : Nat} {G : List Nat} {g : Nat} (hn : n = G.length) (h : W.ownsRow B 50 1 v (n + 1) (G.map slB ++ [slB g])) :
    ∃ b cap, v = .slice (some ⟨b, 0, none⟩) (G ++ [g]).length cap ∧ W.ownsRow B 50 1 (.slice (some ⟨b, 0, none⟩) (G ++ [g]).length cap) (G ++ [g]).length ((G ++ [g]).map slB) := by
  subst hn
  have e : (G ++ [g]).length = G.length + 1 := by simp
  rw [e, List.map_append]
  rcases h.2 with ⟨_, h0⟩ | ⟨b, cap, cur, rfl, _⟩
  · omega
  · exact ⟨b, cap, rfl, h⟩

set_option maxHeartbeats 16000000 in
set_option maxRecDepth 100000 in
theorem l07Parts_any (g c : Nat) (f : Nat → Bool) (wide : Bool) (w : World) (hB : BitsIs w g f) :
    Calls Tryd.prog 117 #[.slice (some ⟨g, 0, none⟩) 6400 c, .bool wide] w fun e w' => PartsRes w.heap.size f wide e w' ∧ Below w.heap.size w w' := by
  obtain ⟨i0, hi, hz0, hz1, hz2⟩ := info_parts infoB
  obtain ⟨i3, hi3, ha0, ha1, ha2⟩ := info_parts infoSB
  have HB := Lib.hid hB
  clear hB
  obtain ⟨w0, hw0⟩ : ∃ w0, w0 = w.alloc (.cells #[] 50) := ⟨_, rfl⟩
  have b0 : Below w.heap.size w w0 := by rw [hw0]; (repeat (first | (with_reducible exact Below.refl _ _) | (with_reducible refine Ext.drewN ?_ _) | (with_reducible refine Below.drew ?_) | (with_reducible refine Ext.alloc ?_ _) | (with_reducible refine Ext.setCell ?_ (by simp; try omega) _) | (with_reducible refine Ext.trans ?_ (by assumption)) | (with_reducible assumption) | exact Below.refl _ _))
  have s0 : w0.heap.size = w.heap.size + 1 := by rw [hw0]; simp
  have o0 : w0.ownsRow w.heap.size 50 1 (.slice (some ⟨w.heap.size, 0, none⟩) 0 0) 0 (([] : List Nat).map slB) := by rw [hw0]; exact World.ownsRow_made w #[] 0 (Nat.le_refl _) (by unfold maxLen; decide) rfl
  go_enter Tryd.func117, Tryd.ntmps117
  go_wp2_with (at_make; rw [← hw0]; refine wpList_make_full _ rfl _ _ 50 rfl w0.heap.size 4 i0 (.bool false) 1 Tryd.underlying50 hi hz0 hz1 .i64 .i64 6400 6400 6400 rfl rfl rfl rfl (by rw [hz2]; omega) (by unfold maxLen; omega) (by simp) ?_; intro w1 own1 grow1)
  have hB1 : Below w0.heap.size w0 w1 := (Below.refl _ _).grown grow1 (Nat.le_refl _) (fun k hk => by cases hk)
  have HF1 : Hid (BitsIs w1 (w.heap.size + 1) (doneF f wide [])) := Lib.hid (by rw [← s0]; exact bits_made own1)
  have HO1 := Lib.hid (own_keep o0 hB1)
  have HW1 := Lib.hid (Ext.trans b0 hB1)
  clear own1 grow1 hz0 hz1 hz2 hi hB1 b0 o0 hw0
  go_wp2_with fail
  go_loopw [5, 6, 7] (fun s5 s6 s7 wr => ∃ (y h c' d : Nat) (G : List Nat), y ≤ 80 ∧ s5 = .slice (some ⟨h, 0, none⟩) G.length c' ∧ s6 = .slice (some ⟨d, 0, none⟩) 6400 6400 ∧ s7 = .int .i64 (-40 + (y : Int)) ∧ Hid (Below w.heap.size w wr) ∧ Hid (wr.ownsRow w.heap.size 50 1 (.slice (some ⟨h, 0, none⟩) G.length c') G.length (G.map slB)) ∧ Hid (BitsIs wr d (doneF f wide (startsTo f wide (80 * y)))) ∧ Hid (PartsAt wr f wide G (startsTo f wide (80 * y))) ∧ Hid (h ∉ G ∧ ∀ g, g ∈ G → w.heap.size ≤ g)) (fun _ _ s7 _ => (40 - intOf s7).toNat)
  case atStart => exact ⟨0, w.heap.size, 0, w.heap.size + 1, [], by omega, rfl, rfl, rfl, HW1, HO1, HF1, Lib.hid (PartsAt.nil _ _ _), Lib.hid ⟨by simp, fun g hg => by simp at hg⟩⟩
  case round =>
    obtain ⟨y, h, c', d, G, hy, rfl, rfl, rfl, HW, HO, HF, HP, HN⟩ := hrel
    by_cases hlt : y < 80
    case neg =>
      obtain rfl : y = 80 := by omega
      have q1 : ¬ (-40 + ((80 : Nat) : Int)) < 40 := by omega
      have hcells : ∀ (i g : Nat), G[i]? = some g → wr.cell? ⟨h, i, none⟩ = some (slB g) := fun i g hg => by
        have := HO.out.cells (g := h) rfl i (slB g) (by rw [List.getElem?_map, hg]; rfl)
        rwa [addG] at this
      have HC := Lib.hid hcells
      have HLO := Lib.hid (HO.out.lt h rfl)
      clear hcells
      go_wp2_with fail
      go_ret
      exact ⟨⟨h, c', G, ⟨HLO.out.1, HLO.out.2, HN.out.2⟩, rfl, HP.out, HC.out⟩, HW.out⟩
    obtain ⟨Y, hY⟩ : ∃ Y : Int, -40 + (y : Int) = Y := ⟨_, rfl⟩
    have q1 : Y < 40 := by omega
    have q2 : -40 ≤ Y := by omega
    rw [hY]
    have HY := Lib.hid hY
    clear hY
    go_wp2_with fail
    go_loopw [5, 6, 8] (fun s5 s6 s8 wx => ∃ (x h c' d : Nat) (G : List Nat), x ≤ 80 ∧ s5 = .slice (some ⟨h, 0, none⟩) G.length c' ∧ s6 = .slice (some ⟨d, 0, none⟩) 6400 6400 ∧ s8 = .int .i64 (-40 + (x : Int)) ∧ Hid (Below w.heap.size w wx) ∧ Hid (wx.ownsRow w.heap.size 50 1 (.slice (some ⟨h, 0, none⟩) G.length c') G.length (G.map slB)) ∧ Hid (BitsIs wx d (doneF f wide (startsTo f wide (80 * y + x)))) ∧ Hid (PartsAt wx f wide G (startsTo f wide (80 * y + x))) ∧ Hid (h ∉ G ∧ ∀ g, g ∈ G → w.heap.size ≤ g)) (fun _ _ s8 _ => (40 - intOf s8).toNat)
    case atStart => exact ⟨0, h, c', d, G, by omega, rfl, rfl, rfl, HW, HO, HF, HP, HN⟩
    case round =>
      clear HW HO HF HP HN
      obtain ⟨x, h, c', d, G, hx, rfl, rfl, rfl, HW, HO, HF, HP, HN⟩ := hrel
      by_cases hlx : x < 80
      case neg =>
        obtain rfl : x = 80 := by omega
        have r1 : ¬ (-40 + ((80 : Nat) : Int)) < 40 := by omega
        go_wp2_with fail
        go_roundw
        case rel => exact ⟨y + 1, h, c', d, G, by omega, rfl, rfl, by have := HY.out; go_num, HW, HO, HF, HP, HN⟩
        case measure => simp [intOf]; omega
      obtain ⟨X, hX⟩ : ∃ X : Int, -40 + (x : Int) = X := ⟨_, rfl⟩
      have r1 : X < 40 := by omega
      have r2 : -40 ≤ X := by omega
      obtain ⟨k, hk⟩ : ∃ k : Nat, 80 * y + x = k := ⟨_, rfl⟩
      have hkc : cIx X Y = k := by have := HY.out; unfold cIx; omega
      have hk6 : k < 6400 := by omega
      have hks : 80 * y + (x + 1) = k + 1 := by omega
      have HKS := Lib.hid hks
      have HX := Lib.hid hX
      rw [hX]
      rw [hk] at HF HP
      have hlen : G.length ≤ 6400 := by have h1 := HP.out.1; have h2 := startsTo_len f wide k; omega
      have hBw := Lib.hid (HB.out.below HW.out)
      have hc1 := (hBw.out k hk6).1
      have hc2 := (HF.out k hk6).1
      have t0 : (0 : Int) ≤ (k : Int) := by omega
      have t1 : (k : Int) < 6400 := by omega
      clear hX hk hks
      cases hf : f k with
      | false =>
        have HST := Lib.hid (startsTo_no (wide := wide) (k := k) (.inl hf))
        rw [hf] at hc1
        go_wp2_with (go_at_call 99; refine (l03At_any X Y _ r2 (by omega) q2 (by omega)).mono ?_; rintro e wz ⟨rfl, rfl⟩; rw [hkc])
        go_roundw
        case rel => exact ⟨x + 1, h, c', d, G, by omega, rfl, rfl, by have := HX.out; go_num, HW, HO, by rw [HKS.out, HST.out]; exact HF, by rw [HKS.out, HST.out]; exact HP, HN⟩
        case measure => simp [intOf]; omega
      | true =>
        rw [hf] at hc1
        cases hd : doneF f wide (startsTo f wide k) k with
        | true =>
          have HST := Lib.hid (startsTo_no (wide := wide) (k := k) (.inr hd))
          rw [hd] at hc2
          go_wp2_with (go_at_call 99; refine (l03At_any X Y _ r2 (by omega) q2 (by omega)).mono ?_; rintro e wz ⟨rfl, rfl⟩; rw [hkc])
          go_roundw
          case rel => exact ⟨x + 1, h, c', d, G, by omega, rfl, rfl, by have := HX.out; go_num, HW, HO, by rw [HKS.out, HST.out]; exact HF, by rw [HKS.out, HST.out]; exact HP, HN⟩
          case measure => simp [intOf]; omega
        | false =>
          have HST := Lib.hid (startsTo_yes (wide := wide) hf hd)
          rw [hd] at hc2
          have hcn := cIx_cN hk6
          have hxk : cxN k = X ∧ cyN k = Y := by rw [← hkc]; exact cxN_at ⟨⟨r2, by omega⟩, q2, by omega⟩
          have hhas : hasB f X Y = true := by rw [hasB_in ⟨⟨r2, by omega⟩, q2, by omega⟩, hkc]; exact hf
          have HH := Lib.hid hhas
          have HXK := Lib.hid hxk
          clear hcn hxk hhas
          go_wp2_with (go_at_call 99; refine (l03At_any X Y _ r2 (by omega) q2 (by omega)).mono ?_; rintro e wz ⟨rfl, rfl⟩; rw [hkc])
          refine (l07Flood_any g c f X Y wide _ hBw.out HH.out).mono ?_
          rintro e w3 ⟨⟨gp, rfl, hgp, hbp⟩, bw3⟩
          have HF3 := Lib.hid (HF.out.below bw3)
          have HB3 := Lib.hid hbp
          clear hbp hc1 hc2
          go_wp2_with fail
          refine (l04Combine_any d gp 6400 6400 _ _ 14 (by decide) _ HF3.out HB3.out).mono ?_
          rintro e w4 ⟨⟨d', rfl, hd0, hbd⟩, bw4⟩
          have B34 := Ext.trans bw3 bw4
          have HF4 : Hid (BitsIs w4 d' (doneF f wide (startsTo f wide (k + 1)))) := Lib.hid (hbd.congr fun j _ => by
            have := doneF_snoc f wide (startsTo f wide k) k j
            rw [HXK.out.1, HXK.out.2] at this
            rw [HST.out, ← this])
          have hgl := HB3.out.lt
          have HB4 := Lib.hid (HB3.out.below bw4)
          have HO4 := Lib.hid (own_keep HO.out B34)
          have HP4 := Lib.hid (HP.out.below B34)
          have HW4 := Lib.hid (Ext.trans HW.out B34)
          have hhl := (HO.out.lt h rfl).2
          have l3 := bw3.size
          have l4 := bw4.size
          have hpl := fun x (hx : x ∈ G) => HP.out.lt hx
          have HPL := Lib.hid hpl
          have hWs := HW.out.size
          clear hbd bw3 bw4 B34 HF3 HB3 HF HP HO HW hpl
          go_wp2_with (at_builtin; refine wpList_append_own_at _ rfl _ _ 117 rfl w.heap.size 50 i3 (.slice none 0 0) 1 24 Tryd.underlying117 hi3 ha0 ha1 ha2 rfl (by decide) _ _ _ rfl (HO4.out.alloc _) ⟨w4.heap.size, 0, none⟩ 1 1 [slB gp] rfl rfl ?c1 ?c2 ?c3 ?c4 ?c5 ?_)
          case c1 =>
            intro j u hj
            match j, hj with
            | 0, hj => simp at hj; subst hj; rw [addG]; simp [go_sem, slB]
          case c2 => intro u hu; simp at hu; subst hu; rfl
          case c3 => unfold maxLen; omega
          case c4 => omega
          case c5 => (try simp only [World.size_alloc]); omega
          intro v' wn hown' hgrow _ hat
          have hb5 : Below w.heap.size w wn := Below.grown (HW4.out.alloc (by omega) _) hgrow (by simp only [World.size_alloc]; omega) (fun j hj => by have e : j = h := (by simpa [Value.ownBlock] using hj.symm); have := (HO4.out.lt h rfl).1; omega)
          have hd5 : BitsIs wn d' (doneF f wide (startsTo f wide (k + 1))) := (HF4.out.below ((Below.refl _ _).alloc (Nat.le_refl _) _)).grown hgrow (by simp [Value.ownBlock]; omega)
          have hp5 : PartsAt wn f wide (G ++ [gp]) (startsTo f wide (k + 1)) := by
            rw [HST.out]
            refine PartsAt.grown ((HP4.out.snoc (by rw [HXK.out.1, HXK.out.2]; exact HB4.out)).below ((Below.refl _ _).alloc (Nat.le_refl _) _)) hgrow ?_
            intro x hx
            rcases List.mem_append.1 hx with hx | hx
            · simp [Value.ownBlock]; intro e; exact HN.out.1 (e ▸ hx)
            · obtain rfl := List.mem_singleton.1 hx; simp [Value.ownBlock]; omega
          obtain ⟨h', c2, rfl, hown1⟩ := slB_next rfl hown'
          have hn5 : h' ∉ G ++ [gp] ∧ ∀ g, g ∈ G ++ [gp] → w.heap.size ≤ g := by
            refine ⟨fun hx => ?_, fun x hx => (List.mem_append.1 hx).elim (fun k => HN.out.2 x k) (fun k => by have := List.mem_singleton.1 k; omega)⟩
            rcases hat with hat | hat
            · have e : h' = h := (by simpa [Value.ownBlock] using hat)
              subst e
              rcases List.mem_append.1 hx with hx | hx
              · exact HN.out.1 hx
              · have := List.mem_singleton.1 hx; omega
            · have e : h' = w4.heap.size + 1 := (by simpa [Value.ownBlock] using hat)
              rcases List.mem_append.1 hx with hx | hx
              · have := HPL.out h' hx; omega
              · have := List.mem_singleton.1 hx; omega
          have HW5 := Lib.hid hb5
          have HD5 := Lib.hid hd5
          have HP5 := Lib.hid hp5
          have HO5 := Lib.hid hown1
          have HN5 := Lib.hid hn5
          clear hown' hgrow hat hb5 hd5 hp5 hown1 hn5 HF4 HB4 HO4 HP4 HW4
          go_wp2_with fail
          go_roundw
          case rel => exact ⟨x + 1, h', c2, d', G ++ [gp], by omega, by simp, rfl, by have := HX.out; go_num, HW5, HO5, by rw [HKS.out]; exact HD5, by rw [HKS.out]; exact HP5, HN5⟩
          case measure => simp [intOf]; omega
end Go.Proofs.YtepfnnhmplaocaaDoor
