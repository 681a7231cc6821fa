/- The model's SelectOverlapping and FillHoles. Conditions: the rectangles' cells are in memory. -/
import Derived.Test.YtepfnnhmplaocaaDoorCpK
namespace Go.Proofs.YtepfnnhmplaocaaDoor
open Go.RowKit
set_option linter.unusedVariables false
set_option linter.unusedSimpArgs false
attribute [local go_sem ↓] Go.wp_at_zero Go.wp_at_succ

/-- What SelectOverlapping answers. -/
noncomputable def soL (P Q R S : Nat → Int) (n : Nat) (A B C D : Nat → Int) (k : Nat) : List R4 := if (okR P Q R S n && okR A B C D k) = true then canonL (anyF ((cmpL (covF P Q R S n) false).filter fun l => decide (0 < (canonL (opF 8 (pA l) (pB l) (pC l) (pD l) l.length A B C D k)).length))) else []
set_option maxHeartbeats 8000000 in
set_option maxRecDepth 100000 in
theorem specSelectOverlapping_yes (m : Option Addr) (n cap : Nat) (P Q R S : Nat → Int) (m' : Option Addr) (k cap' : Nat) (A B C D : Nat → Int) (w : World) (hn : n ≤ 1048576) (hk : k ≤ 1048576) (hR : RectsIs w.heap.size w m n P Q R S) (hR' : RectsIs w.heap.size w m' k A B C D) (hok : okR P Q R S n = true) (hok' : okR A B C D k = true) :
    Calls Tryd.prog 53 #[.slice m n cap, .slice m' k cap'] w fun e w' => LRes (canonL (anyF ((cmpL (covF P Q R S n) false).filter fun l => decide (0 < (canonL (opF 8 (pA l) (pB l) (pC l) (pD l) l.length A B C D k)).length)))) e w' ∧ Below w.heap.size w w' := by
  obtain ⟨i0, hi, hz0, hz1, hz2⟩ := info_parts infoB
  have HR := Lib.hid hR
  have HR' := Lib.hid hR'
  have HV' := Lib.hid (okR_all hok')
  have hbo : (okR P Q R S n && okR A B C D k) = true := by rw [hok, hok']; rfl
  have hcan := cmpL_can (covF P Q R S n) false
  have hlen := cmpL_len (covF P Q R S n) false
  have hspec := fun w' hR' => l07Components_any m n cap P Q R S w' hn hR' hok
  obtain ⟨LL, hLL⟩ : ∃ LL, cmpL (covF P Q R S n) false = LL := ⟨_, rfl⟩
  rw [hLL] at hcan hlen hspec ⊢
  have HC := Lib.hid hcan
  obtain ⟨res, hres0⟩ : ∃ res, canonL (anyF (LL.filter fun l => decide (0 < (canonL (opF 8 (pA l) (pB l) (pC l) (pD l) l.length A B C D k)).length))) = res := ⟨_, rfl⟩
  rw [hres0]
  have HRES := Lib.hid hres0
  clear hLL hcan hR hR' hres0
  go_enter Tryd.func53, Tryd.ntmps53
  go_wp2_with fail
  refine (l04Both_any m n cap P Q R S m' k cap' A B C D _ hn hk HR.out HR'.out).mono ?_
  rintro e w0 ⟨rfl, bw0⟩
  rw [hbo]
  go_wp2_with (at_make; refine wpList_make_full _ rfl _ _ 50 rfl w0.heap.size 4 i0 (.bool false) 1 Tryd.underlying50 hi hz0 hz1 .i64 .i64 6400 6400 6400 rfl rfl rfl rfl (by rw [hz2]; omega) (by unfold maxLen; omega) (Nat.le_refl _) ?_; intro w1 own1 grow1)
  have hB01 : Below w0.heap.size w0 w1 := (Below.refl _ _).grown grow1 (Nat.le_refl _) (fun k hk => by cases hk)
  have hB1 : Below w.heap.size w w1 := Ext.trans bw0 hB01
  have HF1 : Hid (BitsIs w1 w0.heap.size (anyF ((LL.take 0).filter fun l => decide (0 < (canonL (opF 8 (pA l) (pB l) (pC l) (pD l) l.length A B C D k)).length)))) := Lib.hid (bits_made own1)
  clear own1 grow1 hi hz0 hz1 hz2
  go_wp2_with fail
  refine (hspec _ (HR.out.ext hB1)).mono ?_
  rintro e w2 ⟨hres, bw2⟩
  obtain ⟨m2, c2, rfl, hin⟩ := hres.in
  have HIN := Lib.hid hin
  have HF2 := Lib.hid (HF1.out.below bw2)
  have HW2 := Lib.hid (Ext.trans hB1 bw2)
  clear hres hin hspec HF1 hB1 bw2
  go_wp2_with fail
  go_loopw [5, 7] (fun s5 s7 wr => ∃ i d : Nat, i ≤ LL.length ∧ s7 = .int .i64 (i : Nat) ∧ s5 = .slice (some ⟨d, 0, none⟩) 6400 6400 ∧ Hid (Below w2.heap.size w2 wr) ∧ Hid (BitsIs wr d (anyF ((LL.take i).filter fun l => decide (0 < (canonL (opF 8 (pA l) (pB l) (pC l) (pD l) l.length A B C D k)).length))))) (fun _ s7 _ => LL.length - (intOf s7).toNat)
  case atStart => exact ⟨0, w0.heap.size, by omega, rfl, rfl, Lib.hid (Below.refl _ _), HF2⟩
  case round =>
    obtain ⟨i, d, hil, rfl, rfl, HW, HF⟩ := hrel
    by_cases hlt : i < LL.length
    case neg =>
      obtain rfl : i = LL.length := by omega
      have q1 : ¬ ((LL.length : Nat) : Int) < (LL.length : Int) := by omega
      have HF9 := HF.out
      rw [List.take_of_length_le (Nat.le_refl _)] at HF9
      have HF9 := Lib.hid HF9
      clear HF
      go_wp2_with fail
      refine (l03Canon_any d 6400 _ _ HF9.out).mono ?_
      rintro e w9 ⟨⟨h9, c9, rfl, hI⟩, bw9⟩
      rw [HRES.out] at hI ⊢
      have HI := Lib.hid hI.rects
      clear hI
      go_wp2_with fail
      go_ret
      exact ⟨⟨_, c9, rfl, HI.out⟩, Ext.trans (Ext.trans HW2.out HW.out) bw9⟩
    have q1 : ((i : Nat) : Int) < (LL.length : Int) := by omega
    have q0 : (0 : Int) ≤ ((i : Nat) : Int) := by omega
    obtain ⟨b, a, c, rfl, hb1, hb2, hb3, hb4⟩ := HIN.out i _ (lgetD hlt)
    have hv := HC.out.valid (List.mem_of_getElem? (lgetD hlt))
    have hst := fun t => anyF_step (p := fun l => decide (0 < (canonL (opF 8 (pA l) (pB l) (pC l) (pD l) l.length A B C D k)).length)) (lgetD hlt) t
    obtain ⟨l, hl⟩ : ∃ l, LL.getD i [] = l := ⟨_, rfl⟩
    rw [hl] at hb2 hb3 hb4 hv hst
    have k2 := keepC HW.out hb2
    have HRI := Lib.hid (RectsIs.ext hb4 HW.out)
    have HV := Lib.hid hv
    have hln : l.length ≤ 1048576 := by omega
    have hbi := fun w' hR' => l03Bits_any a l.length c (pA l) (pB l) (pC l) (pD l) w' hln hR' HV.out
    have hop := fun w' hR1 hR2 => l04Op_any a l.length c (pA l) (pB l) (pC l) (pD l) m' k cap' A B C D 8 (by decide) w' hln hk hR1 hR2 HV.out HV'.out
    have hxl := canonL_len (opF 8 (pA l) (pB l) (pC l) (pD l) l.length A B C D k)
    obtain ⟨x, hx⟩ : ∃ x, canonL (opF 8 (pA l) (pB l) (pC l) (pD l) l.length A B C D k) = x := ⟨_, rfl⟩
    rw [hx] at hop hxl
    have HRB := Lib.hid (HR'.out.ext (Ext.trans HW2.out HW.out))
    by_cases hgt : 0 < x.length
    · have hgt' : (0 : Int) < (x.length : Int) := by omega
      have HST : Hid (∀ t, anyF ((LL.take (i + 1)).filter fun l => decide (0 < (canonL (opF 8 (pA l) (pB l) (pC l) (pD l) l.length A B C D k)).length)) t = tt 14 (anyF ((LL.take i).filter fun l => decide (0 < (canonL (opF 8 (pA l) (pB l) (pC l) (pD l) l.length A B C D k)).length)) t) (covL l t)) := Lib.hid (fun t => by rw [hst t, if_pos (by rw [hx, decide_eq_true hgt])])
      clear hst hx hv hb4 hb2 hl
      go_wp2_with (first | (go_at_call 70; refine (l04Combine_any d g6 6400 6400 _ _ 14 (by decide) _ HF6.out HB6.out).mono ?_; rintro e w7 ⟨⟨d', rfl, hd0, hbd⟩, bw7⟩; have HBD := Lib.hid hbd; clear hbd) | (go_at_call 57; refine (hbi _ (HRI.out.ext B4)).mono ?_; rintro e w6 ⟨⟨g6, rfl, hg6, hB6⟩, bw6⟩; have HB6 := Lib.hid hB6; clear hB6; have HF6 := Lib.hid (HF.out.below (Ext.trans B4 bw6))) | (go_at_call 93; refine (hop _ HRI.out HRB.out).mono ?_; rintro e w4 ⟨⟨h4, c4, rfl, hI4⟩, bw4⟩; clear hI4; have B4 := bw4; have k4 := keepC B4 k2))
      have HW7 := Lib.hid (Ext.trans HW.out (Ext.trans (Ext.trans B4 bw6) bw7))
      have HF7 : Hid (BitsIs w7 d' (anyF ((LL.take (i + 1)).filter fun l => decide (0 < (canonL (opF 8 (pA l) (pB l) (pC l) (pD l) l.length A B C D k)).length)))) := Lib.hid (HBD.out.congr fun t _ => (HST.out t).symm)
      go_roundw
      case rel => exact ⟨i + 1, d', by omega, by go_num, rfl, HW7, HF7⟩
      case measure => simp [intOf]; omega
    · have hgt' : ¬ (0 : Int) < (x.length : Int) := by omega
      have HST : Hid (∀ t, anyF ((LL.take (i + 1)).filter fun l => decide (0 < (canonL (opF 8 (pA l) (pB l) (pC l) (pD l) l.length A B C D k)).length)) t = anyF ((LL.take i).filter fun l => decide (0 < (canonL (opF 8 (pA l) (pB l) (pC l) (pD l) l.length A B C D k)).length)) t) := Lib.hid (fun t => by rw [hst t, if_neg (by rw [hx, decide_eq_false hgt]; simp)])
      clear hst hx hv hb4 hb2 hl
      go_wp2_with (go_at_call 93; refine (hop _ HRI.out HRB.out).mono ?_; rintro e w4 ⟨⟨h4, c4, rfl, hI4⟩, bw4⟩; clear hI4; have B4 := bw4)
      have HW7 := Lib.hid (Ext.trans HW.out B4)
      have HF7 : Hid (BitsIs w4 d (anyF ((LL.take (i + 1)).filter fun l => decide (0 < (canonL (opF 8 (pA l) (pB l) (pC l) (pD l) l.length A B C D k)).length)))) := Lib.hid ((HF.out.below B4).congr fun t _ => (HST.out t).symm)
      go_roundw
      case rel => exact ⟨i + 1, d, by omega, by go_num, rfl, HW7, HF7⟩
      case measure => simp [intOf]; omega
set_option maxHeartbeats 4000000 in
theorem specSelectOverlapping_all (m : Option Addr) (n cap : Nat) (P Q R S : Nat → Int) (m' : Option Addr) (k cap' : Nat) (A B C D : Nat → Int) (w : World) (hn : n ≤ 1048576) (hk : k ≤ 1048576) (hR : RectsIs w.heap.size w m n P Q R S) (hR' : RectsIs w.heap.size w m' k A B C D) :
    Calls Tryd.prog 53 #[.slice m n cap, .slice m' k cap'] w fun e w' => LRes (soL P Q R S n A B C D k) e w' ∧ Below w.heap.size w w' := by
  cases hbo : (okR P Q R S n && okR A B C D k) with
  | false =>
    have HR := Lib.hid hR
    have HR' := Lib.hid hR'
    clear hR hR'
    have e0 : soL P Q R S n A B C D k = [] := by unfold soL; rw [if_neg (by simp [hbo])]
    rw [e0]
    clear e0
    go_enter Tryd.func53, Tryd.ntmps53
    go_wp2_with fail
    refine (l04Both_any m n cap P Q R S m' k cap' A B C D _ hn hk HR.out HR'.out).mono ?_
    rintro e w0 ⟨rfl, bw0⟩
    rw [hbo]
    go_wp2_with fail
    go_ret
    exact ⟨⟨none, 0, rfl, RectsL.nil _ _ _⟩, bw0⟩
  | true =>
    have e0 : soL P Q R S n A B C D k = canonL (anyF ((cmpL (covF P Q R S n) false).filter fun l => decide (0 < (canonL (opF 8 (pA l) (pB l) (pC l) (pD l) l.length A B C D k)).length))) := by unfold soL; rw [if_pos hbo]
    rw [e0]
    rw [Bool.and_eq_true] at hbo
    exact specSelectOverlapping_yes m n cap P Q R S m' k cap' A B C D w hn hk hR hR' hbo.1 hbo.2
/-- What FillHoles answers. -/
noncomputable def fhL (P Q R S : Nat → Int) (n : Nat) : List R4 := if okR P Q R S n = true then canonL (fun k => tt 14 (covF P Q R S n k) (anyF (holL (covF P Q R S n)) k)) else []
theorem fill_step {LL : List (List R4)} {i : Nat} {l : List R4} (hl : LL[i]? = some l) (F : Nat → Bool) (k : Nat) : tt 14 (tt 14 (F k) (anyF (LL.take i) k)) (covL l k) = tt 14 (F k) (anyF (LL.take (i + 1)) k) := by
  rw [List.take_add_one, hl, Option.toList_some, ← anyF_snoc]
  cases F k <;> cases anyF (LL.take i) k <;> cases covL l k <;> rfl
set_option maxHeartbeats 8000000 in
set_option maxRecDepth 100000 in
theorem specFillHoles_all (m : Option Addr) (n cap : Nat) (P Q R S : Nat → Int) (w : World) (hn : n ≤ 1048576) (hR : RectsIs w.heap.size w m n P Q R S) :
    Calls Tryd.prog 42 #[.slice m n cap] w fun e w' => LRes (fhL P Q R S n) e w' ∧ Below w.heap.size w w' := by
  have HR := Lib.hid hR
  clear hR
  cases hok : okR P Q R S n with
  | false =>
    have e0 : fhL P Q R S n = [] := by unfold fhL; rw [if_neg (by simp [hok])]
    rw [e0]
    clear e0
    go_enter Tryd.func42, Tryd.ntmps42
    go_wp2_with fail
    refine (l03Ok_any m n cap P Q R S _ hn HR.out).mono ?_
    rintro e w1 ⟨rfl, bw1⟩
    rw [hok]
    go_wp2_with fail
    go_ret
    exact ⟨⟨none, 0, rfl, RectsL.nil _ _ _⟩, bw1⟩
  | true =>
    have e0 : fhL P Q R S n = canonL (fun k => tt 14 (covF P Q R S n k) (anyF (holL (covF P Q R S n)) k)) := by unfold fhL; rw [if_pos hok]
    rw [e0]
    clear e0
    have HK := Lib.hid (okR_all hok)
    have hspec := fun w' hR' => l07Holes_any m n cap P Q R S w' hn hR' hok
    have hcan := holL_can (covF P Q R S n)
    have hlen := holL_len (covF P Q R S n)
    obtain ⟨F, hF⟩ : ∃ F, covF P Q R S n = F := ⟨_, rfl⟩
    rw [hF] at hspec hcan hlen ⊢
    obtain ⟨LL, hLL⟩ : ∃ LL, holL F = LL := ⟨_, rfl⟩
    rw [hLL] at hcan hlen hspec ⊢
    have HC := Lib.hid hcan
    have HFF := Lib.hid hF
    obtain ⟨res, hres0⟩ : ∃ res, canonL (fun k => tt 14 (F k) (anyF LL k)) = res := ⟨_, rfl⟩
    rw [hres0]
    have HRES := Lib.hid hres0
    clear hLL hcan hres0 hF
    go_enter Tryd.func42, Tryd.ntmps42
    go_wp2_with fail
    refine (l03Ok_any m n cap P Q R S _ hn HR.out).mono ?_
    rintro e w1 ⟨rfl, bw1⟩
    rw [hok]
    go_wp2_with fail
    refine (l03Bits_any m n cap P Q R S _ hn (HR.out.ext bw1) HK.out).mono ?_
    rintro e w1b ⟨⟨g1, rfl, hg1, hB1⟩, bw1b⟩
    have HB1 := Lib.hid hB1
    clear hB1
    have B1 := Ext.trans bw1 bw1b
    go_wp2_with fail
    refine (hspec _ (HR.out.ext B1)).mono ?_
    rintro e w2 ⟨hres, bw2⟩
    obtain ⟨m2, c2, rfl, hin⟩ := hres.in
    have HIN := Lib.hid hin
    have HF2 : Hid (BitsIs w2 g1 (fun k => tt 14 (F k) (anyF (LL.take 0) k))) := Lib.hid ((HB1.out.below bw2).congr fun k _ => by rw [HFF.out, List.take_zero, show anyF [] k = false from rfl]; cases F k <;> rfl)
    have HW2 := Lib.hid (Ext.trans B1 bw2)
    clear hres hin hspec bw2
    go_wp2_with fail
    go_loopw [3, 5] (fun s3 s5 wr => ∃ i d : Nat, i ≤ LL.length ∧ s5 = .int .i64 (i : Nat) ∧ s3 = .slice (some ⟨d, 0, none⟩) 6400 6400 ∧ Hid (Below w2.heap.size w2 wr) ∧ Hid (BitsIs wr d (fun k => tt 14 (F k) (anyF (LL.take i) k)))) (fun _ s5 _ => LL.length - (intOf s5).toNat)
    case atStart => exact ⟨0, g1, by omega, rfl, rfl, Lib.hid (Below.refl _ _), HF2⟩
    case round =>
      obtain ⟨i, d, hil, rfl, rfl, HW, HF⟩ := hrel
      by_cases hlt : i < LL.length
      case neg =>
        obtain rfl : i = LL.length := by omega
        have q1 : ¬ ((LL.length : Nat) : Int) < (LL.length : Int) := by omega
        have HF9 := HF.out
        rw [List.take_of_length_le (Nat.le_refl _)] at HF9
        have HF9 := Lib.hid HF9
        clear HF
        go_wp2_with fail
        refine (l03Canon_any d 6400 _ _ HF9.out).mono ?_
        rintro e w9 ⟨⟨h9, c9, rfl, hI⟩, bw9⟩
        rw [HRES.out] at hI ⊢
        have HI := Lib.hid hI.rects
        clear hI
        go_wp2_with fail
        go_ret
        exact ⟨⟨_, c9, rfl, HI.out⟩, Ext.trans (Ext.trans HW2.out HW.out) bw9⟩
      have q1 : ((i : Nat) : Int) < (LL.length : Int) := by omega
      have q0 : (0 : Int) ≤ ((i : Nat) : Int) := by omega
      obtain ⟨b, a, c, rfl, hb1, hb2, hb3, hb4⟩ := HIN.out i _ (lgetD hlt)
      have hv := HC.out.valid (List.mem_of_getElem? (lgetD hlt))
      have hst := fun k => fill_step (lgetD hlt) F k
      obtain ⟨l, hl⟩ : ∃ l, LL.getD i [] = l := ⟨_, rfl⟩
      rw [hl] at hb2 hb3 hb4 hv hst
      have k2 := keepC HW.out hb2
      have HRI := Lib.hid (RectsIs.ext hb4 HW.out)
      have HV := Lib.hid hv
      have hln : l.length ≤ 1048576 := by omega
      have hbi := fun w' hR' => l03Bits_any a l.length c (pA l) (pB l) (pC l) (pD l) w' hln hR' HV.out
      have HST := Lib.hid hst
      clear hst hv hb4 hb2 hl
      go_wp2_with (first | (go_at_call 70; refine (l04Combine_any d g6 6400 6400 _ _ 14 (by decide) _ HF6.out HB6.out).mono ?_; rintro e w7 ⟨⟨d', rfl, hd0, hbd⟩, bw7⟩; have HBD := Lib.hid hbd; clear hbd) | (go_at_call 57; refine (hbi _ HRI.out).mono ?_; rintro e w6 ⟨⟨g6, rfl, hg6, hB6⟩, bw6⟩; have HB6 := Lib.hid hB6; clear hB6; have HF6 := Lib.hid (HF.out.below bw6)))
      have HW7 := Lib.hid (Ext.trans HW.out (Ext.trans bw6 bw7))
      have HF7 : Hid (BitsIs w7 d' (fun k => tt 14 (F k) (anyF (LL.take (i + 1)) k))) := Lib.hid (HBD.out.congr fun k _ => HST.out k)
      go_roundw
      case rel => exact ⟨i + 1, d', by omega, by go_num, rfl, HW7, HF7⟩
      case measure => simp [intOf]; omega
end Go.Proofs.YtepfnnhmplaocaaDoor
