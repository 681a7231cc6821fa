/- The model's holes, as a list of regions. Conditions: the rectangles' cells are in memory. -/
import Derived.Test.YtepfnnhmplaocaaDoorCpD
namespace Go.Proofs.YtepfnnhmplaocaaDoor
open Go.RowKit
set_option linter.unusedVariables false
set_option linter.unusedSimpArgs false
attribute [local go_sem ↓] Go.wp_at_zero Go.wp_at_succ

/-- Has the set a cell at the border's place number j? -/
def brd (g : Nat → Bool) (x : Int) : Bool := hasB g x (-40) || hasB g x 39 || hasB g (-40) x || hasB g 39 x
/-- No cell at the border. -/
def innB (g : Nat → Bool) : Bool := (List.range 80).all fun j => !brd g (-40 + (j : Int))
theorem innB_f {g : Nat → Bool} {j : Nat} (hj : j < 80) (h : brd g (-40 + (j : Int)) = true) : innB g = false := by
  unfold innB
  rw [List.all_eq_false]
  exact ⟨j, List.mem_range.2 hj, by simp [h]⟩
theorem innB_t {g : Nat → Bool} (h : ∀ j : Nat, j < 80 → brd g (-40 + (j : Int)) = false) : innB g = true := by
  unfold innB
  rw [List.all_eq_true]
  exact fun j hj => by rw [h j (List.mem_range.1 hj)]; rfl
set_option maxHeartbeats 4000000 in
set_option maxRecDepth 100000 in
theorem l07Inner_any (g c : Nat) (f : Nat → Bool) (w : World) (hB : BitsIs w g f) : Calls Tryd.prog 119 #[.slice (some ⟨g, 0, none⟩) 6400 c] w fun e w' => e = .returned (.bool (innB f)) ∧ w = w' := by
  have HB := Lib.hid hB
  clear hB
  go_enter Tryd.func119, Tryd.ntmps119
  go_wp2_with fail
  go_loopw [3] (fun s3 wr => ∃ j : Nat, j ≤ 80 ∧ s3 = .int .i64 (-40 + (j : Int)) ∧ Hid (∀ k : Nat, k < j → brd f (-40 + (k : Int)) = false) ∧ w = wr) (fun s3 _ => (40 - intOf s3).toNat)
  case atStart => exact ⟨0, by omega, rfl, Lib.hid (fun k hk => by omega), rfl⟩
  case round =>
    obtain ⟨j, hj, rfl, HJ, rfl⟩ := hrel
    by_cases hlt : j < 80
    case neg =>
      obtain rfl : j = 80 := by omega
      have q1 : ¬ (-40 + ((80 : Nat) : Int)) < 40 := by omega
      have HI := Lib.hid (innB_t HJ.out)
      go_wp2_with fail
      go_ret
      exact ⟨ret_bool HI.out.symm, rfl⟩
    obtain ⟨x, hx⟩ : ∃ x : Int, -40 + (j : Int) = x := ⟨_, rfl⟩
    have HX := Lib.hid hx
    have q1 : x < 40 := by omega
    have q2 : -40 ≤ x := by omega
    rw [hx]
    clear hx
    cases h1 : hasB f x (-40) with
    | true =>
      have HI := Lib.hid (innB_f (g := f) hlt (by rw [HX.out]; unfold brd; rw [h1]; rfl))
      go_wp2_with (go_at_call 59; refine (l03Has_any g c f _ _ _ HB.out).mono ?_; rintro e v1 ⟨rfl, rfl⟩; first | rw [h1])
      go_ret
      exact ⟨ret_bool HI.out.symm, rfl⟩
    | false =>
    cases h2 : hasB f x 39 with
    | true =>
      have HI := Lib.hid (innB_f (g := f) hlt (by rw [HX.out]; unfold brd; rw [h2]; simp))
      go_wp2_with (go_at_call 59; refine (l03Has_any g c f _ _ _ HB.out).mono ?_; rintro e v1 ⟨rfl, rfl⟩; first | rw [h1] | rw [h2])
      go_ret
      exact ⟨ret_bool HI.out.symm, rfl⟩
    | false =>
    cases h3 : hasB f (-40) x with
    | true =>
      have HI := Lib.hid (innB_f (g := f) hlt (by rw [HX.out]; unfold brd; rw [h3]; simp))
      go_wp2_with (go_at_call 59; refine (l03Has_any g c f _ _ _ HB.out).mono ?_; rintro e v1 ⟨rfl, rfl⟩; first | rw [h1] | rw [h2] | rw [h3])
      go_ret
      exact ⟨ret_bool HI.out.symm, rfl⟩
    | false =>
    cases h4 : hasB f 39 x with
    | true =>
      have HI := Lib.hid (innB_f (g := f) hlt (by rw [HX.out]; unfold brd; rw [h4]; simp))
      go_wp2_with (go_at_call 59; refine (l03Has_any g c f _ _ _ HB.out).mono ?_; rintro e v1 ⟨rfl, rfl⟩; first | rw [h1] | rw [h2] | rw [h3] | rw [h4])
      go_ret
      exact ⟨ret_bool HI.out.symm, rfl⟩
    | false =>
      have HN : Hid (∀ k : Nat, k < j + 1 → brd f (-40 + (k : Int)) = false) := Lib.hid (fun k hk => by
        by_cases e : k = j
        · subst e; rw [HX.out]; unfold brd; rw [h1, h2, h3, h4]; rfl
        · exact HJ.out k (by omega))
      go_wp2_with (go_at_call 59; refine (l03Has_any g c f _ _ _ HB.out).mono ?_; rintro e v1 ⟨rfl, rfl⟩; first | rw [h1] | rw [h2] | rw [h3] | rw [h4])
      go_roundw
      case rel => exact ⟨j + 1, by omega, by have := HX.out; go_num, HN, by trivial⟩
      case measure => simp [intOf]; omega

/-- The set's complement. -/
def notF (f : Nat → Bool) (k : Nat) : Bool := !f k
/-- The regions of the inner parts of the complement, of the first i parts. -/
noncomputable def holTo (f : Nat → Bool) (i : Nat) : List (List R4) := (((startsTo (notF f) true 6400).take i).filter fun s => innB (partF (notF f) true (cxN s) (cyN s))).map fun s => canonL (partF (notF f) true (cxN s) (cyN s))
noncomputable def holL (f : Nat → Bool) : List (List R4) := ((startsTo (notF f) true 6400).filter fun s => innB (partF (notF f) true (cxN s) (cyN s))).map fun s => canonL (partF (notF f) true (cxN s) (cyN s))
theorem holTo_all (f : Nat → Bool) {i : Nat} (h : (startsTo (notF f) true 6400).length ≤ i) : holTo f i = holL f := by unfold holTo holL; rw [List.take_of_length_le h]
theorem holTo_step {f : Nat → Bool} {i s : Nat} (hs : (startsTo (notF f) true 6400)[i]? = some s) : holTo f (i + 1) = if innB (partF (notF f) true (cxN s) (cyN s)) = true then holTo f i ++ [canonL (partF (notF f) true (cxN s) (cyN s))] else holTo f i := by
  unfold holTo
  rw [List.take_add_one, hs, Option.toList_some, List.filter_append, List.map_append]
  by_cases h : innB (partF (notF f) true (cxN s) (cyN s)) = true
  · rw [if_pos h]; simp [h]
  · rw [if_neg h]; simp [h]
theorem holTo_len (f : Nat → Bool) (i : Nat) : (holTo f i).length ≤ i := by
  unfold holTo
  rw [List.length_map]
  have h1 := List.length_filter_le (fun s => innB (partF (notF f) true (cxN s) (cyN s))) ((startsTo (notF f) true 6400).take i)
  rw [List.length_take] at h1
  omega
theorem holL_len (f : Nat → Bool) : (holL f).length ≤ 6400 := by
  rw [← holTo_all f (startsTo_len (notF f) true 6400)]
  exact holTo_len f 6400

set_option maxHeartbeats 16000000 in
set_option maxRecDepth 100000 in
theorem l07Holes_any (m : Option Addr) (n cap : Nat) (P Q R S : Nat → Int) (w : World) (hn : n ≤ 1048576) (hR : RectsIs w.heap.size w m n P Q R S) (hok : okR P Q R S n = true) :
    Calls Tryd.prog 80 #[.slice m n cap] w fun e w' => LsRes (holL (covF P Q R S n)) e w' ∧ Below w.heap.size w w' := by
  obtain ⟨i3, hi3, ha0, ha1, ha2⟩ := info_parts infoSR
  have HR := Lib.hid hR
  have HV := Lib.hid (okR_all hok)
  clear hR hok
  obtain ⟨f, hf⟩ : ∃ f, covF P Q R S n = f := ⟨_, rfl⟩
  rw [hf]
  have HFF := Lib.hid hf
  clear hf
  obtain ⟨w0, hw0⟩ : ∃ w0, w0 = w.alloc (.cells #[] 26) := ⟨_, rfl⟩
  have b0 : Below w.heap.size w w0 := by rw [hw0]; (repeat (first | (with_reducible exact Below.refl _ _) | (with_reducible refine Ext.drewN ?_ _) | (with_reducible refine Below.drew ?_) | (with_reducible refine Ext.alloc ?_ _) | (with_reducible refine Ext.setCell ?_ (by simp; try omega) _) | (with_reducible refine Ext.trans ?_ (by assumption)) | (with_reducible assumption) | exact Below.refl _ _))
  have o0 : w0.ownsRow w.heap.size 26 1 (.slice (some ⟨w.heap.size, 0, none⟩) 0 0) 0 [] := by rw [hw0]; exact World.ownsRow_made w #[] 0 (Nat.le_refl _) (by unfold maxLen; decide) rfl
  have HS0 : Hid (w0.heap.size = w.heap.size + 1) := Lib.hid (by rw [hw0]; simp)
  go_enter Tryd.func80, Tryd.ntmps80
  go_wp2_with fail
  rw [← hw0]
  clear hw0
  refine (l03Bits_any m n cap P Q R S _ hn (HR.out.ext b0) HV.out).mono ?_
  rintro e w2 ⟨⟨g, rfl, hg, hB⟩, bw2⟩
  rw [HFF.out] at hB
  have HB := Lib.hid hB
  clear hB
  go_wp2_with fail
  refine (l05Not_any g 6400 f _ HB.out).mono ?_
  rintro e w2b ⟨⟨g2, rfl, hg2, hB2⟩, bw2b⟩
  have HB2 : Hid (BitsIs w2b g2 (notF f)) := Lib.hid hB2
  clear hB2
  have bw2 := Ext.trans bw2 bw2b
  have hsb := bw2b.size
  clear bw2b
  go_wp2_with fail
  refine (l07Parts_any g2 6400 (notF f) true _ HB2.out).mono ?_
  rintro e w3 ⟨⟨ph, pc, G, ⟨hp1, hp2, hp3⟩, rfl, hP, hG⟩, bw3⟩
  have hs0 : w0.heap.size = w.heap.size + 1 := HS0.out
  have hs2 := bw2.size
  have HN3 : Hid (w.heap.size ≠ ph ∧ w.heap.size ∉ G) := Lib.hid ⟨by omega, fun hx => by have := hp3 _ hx; omega⟩
  have HP := Lib.hid hP
  have HG := Lib.hid hG
  have B23 := Ext.trans bw2 bw3
  have HO3 := Lib.hid (own_keep o0 B23)
  have HW3 := Lib.hid (Ext.trans b0 B23)
  have hGL : G.length = (startsTo (notF f) true 6400).length := hP.1
  have hG6 : G.length ≤ 6400 := by rw [hGL]; exact startsTo_len (notF f) true 6400
  have HGL := Lib.hid hGL
  clear hP hG bw2 bw3 B23 b0 o0 HB hGL hp1 hp3 hs0 hs2 hg HS0
  go_wp2_with fail
  go_loopw [3, 5] (fun s3 s5 wr => ∃ (i h c' n' : Nat) (V : List Value), i ≤ G.length ∧ n' ≤ i ∧ Hid (V.length = n') ∧ s3 = .slice (some ⟨h, 0, none⟩) n' c' ∧ s5 = .int .i64 (i : Nat) ∧ Hid (Below w.heap.size w wr) ∧ Hid (PartsAt wr (notF f) true G (startsTo (notF f) true 6400)) ∧ Hid (∀ (i g : Nat), G[i]? = some g → wr.cell? ⟨ph, i, none⟩ = some (slB g)) ∧ Hid (h ≠ ph ∧ h ∉ G) ∧ ph < wr.heap.size ∧ Hid (wr.ownsRow w.heap.size 26 1 (.slice (some ⟨h, 0, none⟩) n' c') n' V) ∧ Hid (LsAt wr V (holTo f i)) ∧ Hid (∀ v, v ∈ V → ∀ b, v.ownBlock = some b → b < wr.heap.size ∧ b ≠ h)) (fun _ s5 _ => G.length - (intOf s5).toNat)
  case atStart => exact ⟨0, w.heap.size, 0, 0, [], by omega, by omega, Lib.hid rfl, rfl, rfl, HW3, HP, HG, HN3, hp2, HO3, Lib.hid (LsAt.nil _), Lib.hid (fun v hv => by simp at hv)⟩
  case round =>
    clear HP HG HN3 HO3 HW3 hp2
    obtain ⟨i, h, c', n', V, hil, hni, hVl, rfl, rfl, HW, HP, HG, HN3, hp2, HO, HL, HN⟩ := hrel
    by_cases hlt : i < G.length
    case neg =>
      obtain rfl : i = G.length := by omega
      have q1 : ¬ ((G.length : Nat) : Int) < (G.length : Int) := by omega
      have hall : holTo f G.length = holL f := holTo_all f (by rw [← HGL.out]; exact Nat.le_refl _)
      have hcl : (holL f).length = n' := by rw [← hall, ← HL.out.1, hVl.out]
      have hlt0 := (HO.out.lt h rfl).2
      have hfin : LsRes (holL f) (.returned (.slice (some ⟨h, 0, none⟩) n' c')) wr := by
        refine ⟨some ⟨h, 0, none⟩, c', V, by rw [hcl], ?_, fun i v hv => ⟨h, rfl, hlt0, row_cells HO.out i v hv⟩⟩
        rw [← hall]; exact HL.out
      have HFIN := Lib.hid hfin
      clear hfin hcl hall
      go_wp2_with fail
      go_ret
      exact ⟨HFIN.out, HW.out⟩
    have q1 : ((i : Nat) : Int) < (G.length : Int) := by omega
    have q0 : (0 : Int) ≤ ((i : Nat) : Int) := by omega
    obtain ⟨gi, hgi⟩ : ∃ gi, G[i]? = some gi := ⟨_, List.getElem?_eq_getElem hlt⟩
    obtain ⟨s, hs⟩ : ∃ s, (startsTo (notF f) true 6400)[i]? = some s := ⟨_, List.getElem?_eq_getElem (by rw [← HGL.out]; exact hlt)⟩
    have hc := HG.out i gi hgi
    unfold slB at hc
    have HB := Lib.hid (HP.out.2 i gi s hgi hs)
    obtain ⟨l, hl⟩ : ∃ l, canonL (partF (notF f) true (cxN s) (cyN s)) = l := ⟨_, rfl⟩
    have hcm := holTo_step hs
    rw [hl] at hcm
    have hll : l.length ≤ 3280 := by rw [← hl]; exact canonL_len _
    have HLL := Lib.hid hl
    have hin := fun w' hB' => l07Inner_any gi 6400 (partF (notF f) true (cxN s) (cyN s)) w' hB'
    cases hib : innB (partF (notF f) true (cxN s) (cyN s)) with
    | false =>
      rw [hib] at hin
      rw [hib, if_neg (by simp)] at hcm
      have HCM := Lib.hid hcm
      clear hcm hl hgi hs
      go_wp2_with fail
      refine (hin _ HB.out).mono ?_
      rintro e w4 ⟨rfl, rfl⟩
      go_wp2_with fail
      go_roundw
      case rel => exact ⟨i + 1, h, c', n', V, by omega, by omega, hVl, rfl, by go_num, HW, HP, HG, HN3, hp2, HO, by rw [HCM.out]; exact HL, HN⟩
      case measure => simp [intOf]; omega
    | true =>
    rw [hib] at hin
    rw [hib, if_pos rfl] at hcm
    have HCM := Lib.hid hcm
    clear hcm hl hgi hs
    go_wp2_with fail
    refine (hin _ HB.out).mono ?_
    rintro e w4 ⟨rfl, rfl⟩
    go_wp2_with fail
    refine (l03Canon_any gi 6400 _ _ HB.out).mono ?_
    rintro e w4 ⟨⟨b, cb, rfl, hI⟩, bw4⟩
    rw [HLL.out] at hI ⊢
    have hb0 := hI.1
    have hb1 := hI.2.1
    have HI := Lib.hid hI.rects
    have HO4 := Lib.hid (own_keep HO.out bw4)
    have HL4 := Lib.hid (HL.out.below bw4)
    have HW4 := Lib.hid (Ext.trans HW.out bw4)
    have hws2 := HW.out.size
    have HP4 := Lib.hid (HP.out.below bw4)
    have HG4 : Hid (∀ (i g : Nat), G[i]? = some g → w4.cell? ⟨ph, i, none⟩ = some (slB g)) := Lib.hid (fun i g hg => keepC bw4 (HG.out i g hg))
    have HPL : Hid (∀ x, x ∈ G → x < wr.heap.size) := Lib.hid (fun x hx => HP.out.lt hx)
    have hhl := (HO.out.lt h rfl).2
    have hhb := (HO.out.lt h rfl).1
    have l4 := bw4.size
    clear hI bw4 HO HL HW hc HP HG
    go_wp2_with (at_builtin; refine wpList_append_own_at _ rfl _ _ 36 rfl w.heap.size 26 i3 (.slice none 0 0) 1 24 Tryd.underlying36 hi3 ha0 ha1 ha2 rfl (by decide) _ _ _ rfl (HO4.out.alloc _) ⟨w4.heap.size, 0, none⟩ 1 1 [.slice (some ⟨b, 0, none⟩) l.length cb] rfl rfl ?c1 ?c2 ?c3 ?c4 ?c5 ?_)
    case c1 =>
      intro j u hj
      match j, hj with
      | 0, hj => simp at hj; subst hj; rw [addG]; simp [go_sem]
    case c2 => intro u hu; simp at hu; subst hu; rfl
    case c3 => unfold maxLen; omega
    case c4 => omega
    case c5 => (try simp only [World.size_alloc]); omega
    intro v' wn hown' hgrow _ hat
    have hgs := hgrow.size
    rw [World.size_alloc] at hgs
    have hL5 : LsAt wn (V ++ [.slice (some ⟨b, 0, none⟩) l.length cb]) (holTo f (i + 1)) := by
      rw [HCM.out]
      refine LsAt.grown ((HL4.out.snoc hll HI.out).below ((Below.refl _ _).alloc (Nat.le_refl _) _)) hgrow ?_
      intro v hv k hk
      rcases List.mem_append.1 hv with hv | hv
      · have := (HN.out v hv k hk).2
        simp [Value.ownBlock]; exact this
      · rw [List.mem_singleton.1 hv] at hk
        have e : b = k := (by simpa [Value.ownBlock] using hk)
        simp [Value.ownBlock]; omega
    obtain ⟨h', c2, rfl, hown1⟩ := row_next hown'
    have hW5 : Below w.heap.size w wn := Below.grown (HW4.out.alloc (by omega) _) hgrow (by simp only [World.size_alloc]; omega) (fun j hj => by have e : j = h := (by simpa [Value.ownBlock] using hj.symm); omega)
    have hP5 : PartsAt wn (notF f) true G (startsTo (notF f) true 6400) := (HP4.out.below ((Below.refl _ _).alloc (Nat.le_refl _) _)).grown hgrow (fun x hx => by simp [Value.ownBlock]; exact fun e => HN3.out.2 (e ▸ hx))
    have hG5 : ∀ (i g : Nat), G[i]? = some g → wn.cell? ⟨ph, i, none⟩ = some (slB g) := fun i g hg => hgrow.cell (keepA (HG4.out i g hg) _) (by simp [Value.ownBlock]; exact fun e => HN3.out.1 e.symm)
    have hN5 : h' ≠ ph ∧ h' ∉ G := by
      rcases hat with hat | hat
      · have e : h' = h := (by simpa [Value.ownBlock] using hat)
        rw [e]; exact HN3.out
      · have e : h' = w4.heap.size + 1 := (by simpa [Value.ownBlock] using hat)
        exact ⟨by omega, fun hx => by have := HPL.out h' hx; omega⟩
    have hM5 : ∀ v, v ∈ V ++ [Value.slice (some ⟨b, 0, none⟩) l.length cb] → ∀ k, v.ownBlock = some k → k < wn.heap.size ∧ k ≠ h' := by
      intro v hv k hk
      rcases List.mem_append.1 hv with hv | hv
      · have hh := HN.out v hv k hk
        refine ⟨by omega, ?_⟩
        rcases hat with hat | hat
        · have e : h' = h := (by simpa [Value.ownBlock] using hat)
          rw [e]; exact hh.2
        · have e : h' = w4.heap.size + 1 := (by simpa [Value.ownBlock] using hat)
          omega
      · rw [List.mem_singleton.1 hv] at hk
        have e : b = k := (by simpa [Value.ownBlock] using hk)
        refine ⟨by omega, ?_⟩
        rcases hat with hat | hat
        · have e : h' = h := (by simpa [Value.ownBlock] using hat)
          omega
        · have e : h' = w4.heap.size + 1 := (by simpa [Value.ownBlock] using hat)
          omega
    have HW5 := Lib.hid hW5
    have HP5 := Lib.hid hP5
    have HG5 := Lib.hid hG5
    have HN5 := Lib.hid hN5
    have HL5 := Lib.hid hL5
    have HO5 := Lib.hid hown1
    have HM5 := Lib.hid hM5
    have HV5 : Hid ((V ++ [Value.slice (some ⟨b, 0, none⟩) l.length cb]).length = n' + 1) := Lib.hid (by rw [List.length_append, hVl.out]; rfl)
    have hpn : ph < wn.heap.size := by omega
    clear hown' hgrow hat hW5 hP5 hG5 hN5 hL5 hown1 hM5 hgs HI HL4 HO4 HW4 HP4 HG4
    go_wp2_with fail
    go_roundw
    case rel => exact ⟨i + 1, h', c2, n' + 1, _, by omega, by omega, HV5, rfl, by go_num, HW5, HP5, HG5, HN5, hpn, HO5, HL5, HM5⟩
    case measure => simp [intOf]; omega
end Go.Proofs.YtepfnnhmplaocaaDoor
