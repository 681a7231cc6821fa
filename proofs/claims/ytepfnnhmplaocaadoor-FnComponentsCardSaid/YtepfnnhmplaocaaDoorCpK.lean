/- The model's choices of components, and its filling of holes. Conditions: the rectangles' cells are in memory. -/
import Derived.Test.YtepfnnhmplaocaaDoorCpJ
namespace Go.Proofs.YtepfnnhmplaocaaDoor
open Go.RowKit
set_option linter.unusedVariables false
set_option linter.unusedSimpArgs false
attribute [local go_sem ↓] Go.wp_at_zero Go.wp_at_succ

theorem allCan.len {LL : List (List R4)} (h : allCan LL) {l : List R4} (hl : l ∈ LL) : l.length ≤ 3280 := by
  obtain ⟨g, rfl⟩ := h l hl
  exact canonL_len g
theorem anyF_step {LL : List (List R4)} {p : List R4 → Bool} {i : Nat} {l : List R4} (hl : LL[i]? = some l) (k : Nat) : anyF ((LL.take (i + 1)).filter p) k = if p l = true then tt 14 (anyF ((LL.take i).filter p) k) (covL l k) else anyF ((LL.take i).filter p) k := by
  rw [List.take_add_one, hl, Option.toList_some, List.filter_append]
  by_cases h : p l = true
  · rw [if_pos h, anyF_snoc]
    simp [h]
  · rw [if_neg h]
    simp [h]
/-- What SelectSmall answers. -/
noncomputable def ssL (P Q R S : Nat → Int) (n : Nat) (area : Int) : List R4 := if okR P Q R S n = true then canonL (anyF ((cmpL (covF P Q R S n) false).filter fun l => decide (cntL l < area))) else []
set_option maxHeartbeats 8000000 in
set_option maxRecDepth 100000 in
theorem l07Small_any (m : Option Addr) (n cap : Nat) (P Q R S : Nat → Int) (area : Int) (w : World) (hn : n ≤ 1048576) (hR : RectsIs w.heap.size w m n P Q R S) (hok : okR P Q R S n = true) :
    Calls Tryd.prog 94 #[.slice m n cap, .int .i64 area] w fun e w' => LRes (canonL (anyF ((cmpL (covF P Q R S n) false).filter fun l => decide (cntL l < area)))) e w' ∧ Below w.heap.size w w' := by
  obtain ⟨i0, hi, hz0, hz1, hz2⟩ := info_parts infoB
  have HR := Lib.hid hR
  have hcan := cmpL_can (covF P Q R S n) false
  have hlen := cmpL_len (covF P Q R S n) false
  have hspec := fun w' hR' => l07Components_any m n cap P Q R S w' hn hR' hok
  obtain ⟨LL, hLL⟩ : ∃ LL, cmpL (covF P Q R S n) false = LL := ⟨_, rfl⟩
  rw [hLL] at hcan hlen hspec ⊢
  have HC := Lib.hid hcan
  obtain ⟨res, hres0⟩ : ∃ res, canonL (anyF (LL.filter fun l => decide (cntL l < area))) = res := ⟨_, rfl⟩
  rw [hres0]
  have HRES := Lib.hid hres0
  clear hLL hcan hR hres0
  go_enter Tryd.func94, Tryd.ntmps94
  go_wp2_with (at_make; refine wpList_make_full _ rfl _ _ 50 rfl w.heap.size 4 i0 (.bool false) 1 Tryd.underlying50 hi hz0 hz1 .i64 .i64 6400 6400 6400 rfl rfl rfl rfl (by rw [hz2]; omega) (by unfold maxLen; omega) (Nat.le_refl _) ?_; intro w1 own1 grow1)
  have hB1 : Below w.heap.size w w1 := (Below.refl _ _).grown grow1 (Nat.le_refl _) (fun k hk => by cases hk)
  have HF1 : Hid (BitsIs w1 w.heap.size (anyF ((LL.take 0).filter fun l => decide (cntL l < area)))) := Lib.hid (bits_made own1)
  clear own1 grow1 hi hz0 hz1 hz2
  go_wp2_with fail
  refine (hspec _ (HR.out.ext hB1)).mono ?_
  rintro e w2 ⟨hres, bw2⟩
  obtain ⟨m2, c2, rfl, hin⟩ := hres.in
  have HIN := Lib.hid hin
  have HF2 := Lib.hid (HF1.out.below bw2)
  have HW2 := Lib.hid (Ext.trans hB1 bw2)
  clear hres hin hspec HF1 hB1 bw2
  go_wp2_with fail
  go_loopw [5, 7] (fun s5 s7 wr => ∃ i d : Nat, i ≤ LL.length ∧ s7 = .int .i64 (i : Nat) ∧ s5 = .slice (some ⟨d, 0, none⟩) 6400 6400 ∧ Hid (Below w2.heap.size w2 wr) ∧ Hid (BitsIs wr d (anyF ((LL.take i).filter fun l => decide (cntL l < area))))) (fun _ s7 _ => LL.length - (intOf s7).toNat)
  case atStart => exact ⟨0, w.heap.size, by omega, rfl, rfl, Lib.hid (Below.refl _ _), HF2⟩
  case round =>
    obtain ⟨i, d, hil, rfl, rfl, HW, HF⟩ := hrel
    by_cases hlt : i < LL.length
    case neg =>
      obtain rfl : i = LL.length := by omega
      have q1 : ¬ ((LL.length : Nat) : Int) < (LL.length : Int) := by omega
      have HF9 := HF.out
      rw [List.take_of_length_le (Nat.le_refl _)] at HF9
      have HF9 := Lib.hid HF9
      clear HF
      go_wp2_with fail
      refine (l03Canon_any d 6400 _ _ HF9.out).mono ?_
      rintro e w9 ⟨⟨h9, c9, rfl, hI⟩, bw9⟩
      rw [HRES.out] at hI ⊢
      have HI := Lib.hid hI.rects
      clear hI
      go_wp2_with fail
      go_ret
      exact ⟨⟨_, c9, rfl, HI.out⟩, Ext.trans (Ext.trans HW2.out HW.out) bw9⟩
    have q1 : ((i : Nat) : Int) < (LL.length : Int) := by omega
    have q0 : (0 : Int) ≤ ((i : Nat) : Int) := by omega
    obtain ⟨b, a, c, rfl, hb1, hb2, hb3, hb4⟩ := HIN.out i _ (lgetD hlt)
    have hv := HC.out.valid (List.mem_of_getElem? (lgetD hlt))
    have hst := fun k => anyF_step (p := fun l => decide (cntL l < area)) (lgetD hlt) k
    obtain ⟨l, hl⟩ : ∃ l, LL.getD i [] = l := ⟨_, rfl⟩
    rw [hl] at hb2 hb3 hb4 hv hst
    have k2 := keepC HW.out hb2
    have HRI := Lib.hid (RectsIs.ext hb4 HW.out)
    have HV := Lib.hid hv
    have hln : l.length ≤ 1048576 := by omega
    have hbi := fun w' hR' => l03Bits_any a l.length c (pA l) (pB l) (pC l) (pD l) w' hln hR' HV.out
    obtain ⟨x, hx⟩ : ∃ x, cntL l = x := ⟨_, rfl⟩
    have hx' : cntF (covF (pA l) (pB l) (pC l) (pD l) l.length) 6400 = x := hx
    have HX := Lib.hid hx'
    by_cases hgt : x < area
    · have HST : Hid (∀ k, anyF ((LL.take (i + 1)).filter fun l => decide (cntL l < area)) k = tt 14 (anyF ((LL.take i).filter fun l => decide (cntL l < area)) k) (covL l k)) := Lib.hid (fun k => by rw [hst k, if_pos (by rw [hx, decide_eq_true hgt])])
      clear hst hx hx' hv hb4 hb2 hl
      go_wp2_with (first | (go_at_call 70; refine (l04Combine_any d g6 6400 6400 _ _ 14 (by decide) _ HF6.out HB6.out).mono ?_; rintro e w7 ⟨⟨d', rfl, hd0, hbd⟩, bw7⟩; have HBD := Lib.hid hbd; clear hbd) | (have k5 := k4; clear k5; go_at_call 57; refine (hbi _ (HRI.out.ext B4)).mono ?_; rintro e w6 ⟨⟨g6, rfl, hg6, hB6⟩, bw6⟩; have HB6 := Lib.hid hB6; clear hB6; have HF6 := Lib.hid (HF.out.below (Ext.trans B4 bw6))) | (go_at_call 91; refine (l03Count_any g3 6400 _ _ HB3.out).mono ?_; rintro e w4 ⟨rfl, bw4⟩; rw [HX.out]; have B4 := Ext.trans bw3 bw4; have k4 := keepC B4 k2) | (go_at_call 57; refine (hbi _ HRI.out).mono ?_; rintro e w3 ⟨⟨g3, rfl, hg3, hB3⟩, bw3⟩; have HB3 := Lib.hid hB3; clear hB3))
      have HW7 := Lib.hid (Ext.trans HW.out (Ext.trans (Ext.trans B4 bw6) bw7))
      have HF7 : Hid (BitsIs w7 d' (anyF ((LL.take (i + 1)).filter fun l => decide (cntL l < area)))) := Lib.hid (HBD.out.congr fun k _ => (HST.out k).symm)
      go_roundw
      case rel => exact ⟨i + 1, d', by omega, by go_num, rfl, HW7, HF7⟩
      case measure => simp [intOf]; omega
    · have HST : Hid (∀ k, anyF ((LL.take (i + 1)).filter fun l => decide (cntL l < area)) k = anyF ((LL.take i).filter fun l => decide (cntL l < area)) k) := Lib.hid (fun k => by rw [hst k, if_neg (by rw [hx, decide_eq_false hgt]; simp)])
      clear hst hx hx' hv hb4 hb2 hl
      go_wp2_with (first | (go_at_call 91; refine (l03Count_any g3 6400 _ _ HB3.out).mono ?_; rintro e w4 ⟨rfl, bw4⟩; rw [HX.out]; have B4 := Ext.trans bw3 bw4) | (go_at_call 57; refine (hbi _ HRI.out).mono ?_; rintro e w3 ⟨⟨g3, rfl, hg3, hB3⟩, bw3⟩; have HB3 := Lib.hid hB3; clear hB3))
      have HW7 := Lib.hid (Ext.trans HW.out B4)
      have HF7 : Hid (BitsIs w4 d (anyF ((LL.take (i + 1)).filter fun l => decide (cntL l < area)))) := Lib.hid ((HF.out.below B4).congr fun k _ => (HST.out k).symm)
      go_roundw
      case rel => exact ⟨i + 1, d, by omega, by go_num, rfl, HW7, HF7⟩
      case measure => simp [intOf]; omega
set_option maxHeartbeats 4000000 in
theorem specSelectSmall_all (m : Option Addr) (n cap : Nat) (P Q R S : Nat → Int) (area : Int) (w : World) (hn : n ≤ 1048576) (hR : RectsIs w.heap.size w m n P Q R S) :
    Calls Tryd.prog 54 #[.slice m n cap, .int .i64 area] w fun e w' => LRes (ssL P Q R S n area) e w' ∧ Below w.heap.size w w' := by
  have HR := Lib.hid hR
  clear hR
  cases hok : okR P Q R S n with
  | false =>
    have e0 : ssL P Q R S n area = [] := by unfold ssL; rw [if_neg (by simp [hok])]
    rw [e0]
    clear e0
    go_enter Tryd.func54, Tryd.ntmps54
    go_wp2_with fail
    refine (l03Ok_any m n cap P Q R S _ hn HR.out).mono ?_
    rintro e w1 ⟨rfl, bw1⟩
    rw [hok]
    go_wp2_with fail
    go_ret
    exact ⟨⟨none, 0, rfl, RectsL.nil _ _ _⟩, bw1⟩
  | true =>
    have e0 : ssL P Q R S n area = canonL (anyF ((cmpL (covF P Q R S n) false).filter fun l => decide (cntL l < area))) := by unfold ssL; rw [if_pos hok]
    rw [e0]
    clear e0
    have HK := Lib.hid hok
    have hsm := fun w' hR' => l07Small_any m n cap P Q R S area w' hn hR' hok
    obtain ⟨res, hres⟩ : ∃ res, canonL (anyF ((cmpL (covF P Q R S n) false).filter fun l => decide (cntL l < area))) = res := ⟨_, rfl⟩
    rw [hres] at hsm ⊢
    clear hres
    go_enter Tryd.func54, Tryd.ntmps54
    go_wp2_with fail
    refine (l03Ok_any m n cap P Q R S _ hn HR.out).mono ?_
    rintro e w1 ⟨rfl, bw1⟩
    rw [hok]
    go_wp2_with fail
    refine (hsm _ (HR.out.ext bw1)).mono ?_
    rintro e w2 ⟨⟨a2, c2, rfl, hl2⟩, bw2⟩
    have HL2 := Lib.hid hl2
    clear hl2
    go_wp2_with fail
    go_ret
    exact ⟨⟨a2, c2, rfl, HL2.out⟩, Ext.trans bw1 bw2⟩
end Go.Proofs.YtepfnnhmplaocaaDoor
