/- FnSizing answers true. Conditions: the code's bytes are in memory; the variables that regions read hold their tables. -/
import Derived.Test.YtgccnongfdbalaaDoorRAA
import Derived.Test.YtgccnongfdbalaaDoorQZ
import Derived.Test.YtgccnongfdbalaaDoorQP
import Derived.Test.YtgccnongfdbalaaDoorQN
import Derived.Test.YtgccnongfdbalaaDoorQI
import Derived.Test.YtgccnongfdbalaaDoorQT
import Derived.ProofKit
import Derived.OpenShut
import Derived.ShutString
import Derived.ChangeOld
import Derived.Carry
import Derived.Below
import Derived.Lib.SmallJoins
import Derived.Lib.LaidU8
import Derived.Test.YtgccnongfdbalaaDoorFacts
import Derived.OpenVars
import Derived.LaidMore
import Derived.Stop.Joined
import Derived.SevenTiedAt
import Derived.Test.YtgccnongfdbalaaDoorTie
import Derived.Test.YtgccnongfdbalaaDoorCards
namespace Go.Proofs.YtgccnongfdbalaaDoor
open Go.RowKit
set_option linter.unusedVariables false
set_option linter.unusedSimpArgs false

theorem cv_iff {l m : List R4} {f g : Nat → Bool} (hl : l = canonL f) (hm : m = canonL g) : cvB (pA l) (pB l) (pC l) (pD l) l.length (pA m) (pB m) (pC m) (pD m) m.length = true ↔ LeF g f := by
  constructor
  · intro h j hj e
    unfold cvB at h
    simp only [Bool.and_eq_true, beq_iff_eq] at h
    have h0 := (canonL_none_iff _).1 (show (canonL (opF 4 (pA m) (pB m) (pC m) (pD m) m.length (pA l) (pB l) (pC l) (pD l) l.length)).length = 0 by omega) j hj
    unfold opF tt at h0
    rw [cov_of_canon hm j hj, cov_of_canon hl j hj, e] at h0
    cases e2 : f j with
    | true => rfl
    | false => rw [e2] at h0; revert h0; decide
  · intro h
    exact cv_yes (okR_of_canon hl) (okR_of_canon hm) fun j hj e => (cov_of_canon hl j hj).trans (h j hj ((cov_of_canon hm j hj).symm.trans e))
/-- What is grown is covered by b just if what b shrunk is covers it. -/
theorem cv_gal {lb lG lS l1 : List R4} {fb f1 : Nat → Bool} {k : Nat} (hb : lb = canonL fb) (h1 : l1 = canonL f1) (hG : lG = canonL (grF f1 k)) (hS : lS = canonL (srF fb k)) :
    cvB (pA lS) (pB lS) (pC lS) (pD lS) lS.length (pA l1) (pB l1) (pC l1) (pD l1) l1.length = cvB (pA lb) (pB lb) (pC lb) (pD lb) lb.length (pA lG) (pB lG) (pC lG) (pD lG) lG.length := by
  rw [Bool.eq_iff_iff, cv_iff hS h1, cv_iff hb hG]
  exact (gal f1 fb k).symm
theorem opL_eqS (op : Nat) {l m : List R4} {f g : Nat → Bool} (hl : l = canonL f) (hm : m = canonL g) : opL op (pA l) (pB l) (pC l) (pD l) l.length (pA m) (pB m) (pC m) (pD m) m.length = canonL (fun k => tt op (f k) (g k)) := by
  subst hl hm; exact opL_canon op f g
theorem canon_lenS {l : List R4} {f : Nat → Bool} (hl : l = canonL f) : l.length ≤ 3280 := by subst hl; exact canonL_len f
set_option maxRecDepth 100000 in
set_option maxHeartbeats 4000000 in
theorem walkSizing (a : Option Addr) (len cap : Nat) (w : World) (hlen : len ≤ maxLen) (hC : CodeIs w.heap.size w a len) (hD : EnvW w) :
    Calls Tryd.prog 5 #[.slice a len cap] w fun e w' => e = .returned (.bool true) ∧ Below w.heap.size w w' := by
  by_cases hbig : 4096 < len
  · have hb : decide (4096 < len) = true := decide_eq_true hbig
    go_enter Tryd.func5, Tryd.ntmps5
    go_wp2_with fail
    refine (lawBigB_any _ _ _ _).mono ?_
    rintro e w1 ⟨rfl, rfl⟩
    rw [hb]
    go_wp2_with fail
    go_ret
    exact ⟨rfl, Below.refl _ _⟩
  have hb : decide (4096 < len) = false := decide_eq_false hbig
  have HC := Lib.hid hC
  clear hC
  go_enter Tryd.func5, Tryd.ntmps5
  go_wp2_with fail
  refine (lawBigB_any _ _ _ _).mono ?_
  rintro e w1 ⟨rfl, rfl⟩
  rw [hb]
  go_wp2_with fail
  refine (drawGrow_any a len cap _ (by omega) HC.out).mono ?_
  rintro e w2 ⟨_, l1, k, rfl, kl, ku, ⟨h1, c1, rfl, n1, i1⟩, Bc⟩
  have I1 := Lib.hid i1
  clear i1
  go_wp2_with fail
  refine (other9_any a len cap _ (by omega) ((HC.out.below Bc).up Bc.size)).mono ?_
  rintro e wo ⟨⟨ho, co, rfl, hcode⟩, bo⟩
  have HC2 := Lib.hid hcode
  have I1 := Lib.hid (I1.out.ext bo)
  have Bc := Ext.trans Bc bo
  clear bo hcode HC hb
  go_wp2_with fail
  refine (drawUnion_any _ (3 + len) co _ (by omega) HC2.out).mono ?_
  rintro e wi ⟨_, _, l2, l3, rfl, ⟨h2, c2, rfl, n2, i2⟩, ⟨h3, c3, rfl, n3, i3⟩, bi⟩
  have I2 := Lib.hid i2
  have I1 := Lib.hid (I1.out.ext bi)
  have Bc := Ext.trans Bc bi
  clear i2 i3 n3 HC2 bi
  go_wp2_with fail
  refine (specIsRegion_any (some ⟨h1, 0, none⟩) l1.length c1 (pA l1) (pB l1) (pC l1) (pD l1) _ (by omega) I1.out.rects).mono ?_
  rintro e wr1 ⟨rfl, br1⟩
  have I1 := Lib.hid (I1.out.ext br1)
  have I2 := Lib.hid (I2.out.ext br1)
  have Bc := Ext.trans Bc br1
  clear br1
  cases hok1 : okR (pA l1) (pB l1) (pC l1) (pD l1) l1.length with
  | false =>
    go_wp2_with fail
    go_ret
    exact ⟨rfl, Bc⟩
  | true =>
  go_wp2_with fail
  refine (specIsRegion_any (some ⟨h2, 0, none⟩) l2.length c2 (pA l2) (pB l2) (pC l2) (pD l2) _ (by omega) I2.out.rects).mono ?_
  rintro e wr2 ⟨rfl, br2⟩
  have I1 := Lib.hid (I1.out.ext br2)
  have I2 := Lib.hid (I2.out.ext br2)
  have Bc := Ext.trans Bc br2
  clear br2
  cases hok2 : okR (pA l2) (pB l2) (pC l2) (pD l2) l2.length with
  | false =>
    go_wp2_with fail
    go_ret
    exact ⟨rfl, Bc⟩
  | true =>
  by_cases hk0 : k < 0
  · go_wp2_with fail
    go_ret
    exact ⟨rfl, Bc⟩
  by_cases hk1 : 10 < k
  · go_wp2_with fail
    go_ret
    exact ⟨rfl, Bc⟩
  have hk : inB k 0 10 = true := inB_mk (by omega) (by omega)
  have hc1 : l1 = canonL (covF (pA l1) (pB l1) (pC l1) (pD l1) l1.length) := canon_ofS hok1
  have hc2 : l2 = canonL (covF (pA l2) (pB l2) (pC l2) (pD l2) l2.length) := canon_ofS hok2
  obtain ⟨lG, hlG⟩ : ∃ l, l = szL grF (pA l1) (pB l1) (pC l1) (pD l1) l1.length k := ⟨_, rfl⟩
  have hcG := hlG.trans (szV_yes (F := grF) (by rw [hok1, hk]; rfl))
  have hnG := canon_lenS hcG
  have EG := Lib.hid hlG.symm
  have HC1 := Lib.hid hc1
  have HC2 := Lib.hid hc2
  have HCG := Lib.hid hcG
  have HK := Lib.hid hk
  clear hc1 hc2 hcG hlG hk hok1 hok2
  by_cases hpar : len % 2 = 0
  · have hp1 : (len : Int).tmod 2 = 0 := by rw [Int.tmod_eq_emod_of_nonneg (by omega)]; omega
    obtain ⟨lb, hlb⟩ : ∃ l, l = opL 14 (pA l2) (pB l2) (pC l2) (pD l2) l2.length (pA lG) (pB lG) (pC lG) (pD lG) lG.length := ⟨_, rfl⟩
    have HCB := Lib.hid (hlb.trans (opL_eqS 14 HC2.out HCG.out))
    have hnb := canon_lenS HCB.out
    have EB := Lib.hid hlb.symm
    clear hlb
    go_wp2_with fail
    refine (specGrow_all (some ⟨h1, 0, none⟩) l1.length c1 (pA l1) (pB l1) (pC l1) (pD l1) k _ (by omega) I1.out.rects).mono ?_
    rintro e w21 ⟨⟨a21, c21, rfl, r21⟩, b21⟩
    rw [EG.out] at r21 ⊢
    have r21 := Lib.hid r21
    have I1 := Lib.hid (I1.out.ext b21)
    have I2 := Lib.hid (I2.out.ext b21)
    have Bc := Ext.trans Bc b21
    clear b21
    have S21 := r21
    clear r21
    go_wp2_with fail
    refine (specUnion_all (some ⟨h2, 0, none⟩) l2.length c2 (pA l2) (pB l2) (pC l2) (pD l2) a21 lG.length c21 (pA lG) (pB lG) (pC lG) (pD lG) _ (by omega) (by omega) I2.out.rects S21.out).mono ?_
    rintro e w22 ⟨⟨a22, c22, rfl, r22⟩, b22⟩
    rw [EB.out] at r22 ⊢
    have r22 := Lib.hid r22
    have I1 := Lib.hid (I1.out.ext b22)
    have I2 := Lib.hid (I2.out.ext b22)
    have S21 := Lib.hid (S21.out.ext b22)
    have Bc := Ext.trans Bc b22
    clear b22
    have S22 := r22
    clear r22
    clear I2
    clear S21
    obtain ⟨lS, hlS⟩ : ∃ l, l = szL srF (pA lb) (pB lb) (pC lb) (pD lb) lb.length k := ⟨_, rfl⟩
    have hcS := hlS.trans (sz_of_canon (F := srF) (fun f g k h j hj => shF_congr h k k hj) HCB.out HK.out)
    have hnS := canon_lenS hcS
    have ES := Lib.hid hlS.symm
    obtain ⟨q, hq⟩ : ∃ q, q = cvB (pA lb) (pB lb) (pC lb) (pD lb) lb.length (pA lG) (pB lG) (pC lG) (pD lG) lG.length := ⟨_, rfl⟩
    have EQ := Lib.hid hq.symm
    have EQ2 := Lib.hid ((cv_gal HCB.out HC1.out HCG.out hcS).trans hq.symm)
    have hqq : (q == q) = true := by cases q <;> rfl
    clear hlS hcS hq
    go_wp2_with fail
    refine (copyRectsL_any _ a22 c22 lb _ (by omega) (Nat.le_refl _) S22.out).mono ?_
    rintro e w23 ⟨h23, c23, rfl, k23, i23, b23⟩
    have i23 := Lib.hid i23
    have I1 := Lib.hid (I1.out.ext b23)
    have S22 := Lib.hid (S22.out.ext b23)
    have Bc := Ext.trans Bc b23
    clear b23
    have I23 := i23
    clear i23
    go_wp2_with fail
    refine (copyRects_any _ h1 c1 l1 _ (by omega) I1.out).mono ?_
    rintro e w24 ⟨h24, c24, rfl, k24, i24, b24⟩
    have i24 := Lib.hid i24
    have I1 := Lib.hid (I1.out.ext b24)
    have S22 := Lib.hid (S22.out.ext b24)
    have I23 := Lib.hid (I23.out.ext b24)
    have Bc := Ext.trans Bc b24
    clear b24
    have I24 := i24
    clear i24
    go_wp2_with fail
    refine (growC_any (some ⟨h24, 0, none⟩) l1.length c24 (pA l1) (pB l1) (pC l1) (pD l1) k _ (by omega) k24 (hD.ext Bc) I24.out.rects).mono ?_
    rintro e w25 ⟨⟨a25, c25, rfl, k25, o25⟩, b25⟩
    rw [EG.out] at k25 o25 ⊢
    have o25 := Lib.hid o25
    clear I24
    have I1 := Lib.hid (I1.out.ext b25)
    have S22 := Lib.hid (S22.out.ext b25)
    have I23 := Lib.hid (I23.out.ext b25)
    have Bc := Ext.trans Bc b25
    clear b25
    have O25 := o25
    clear o25
    go_wp2_with fail
    refine (implCovers_any merge4_any (some ⟨h23, 0, none⟩) lb.length c23 (pA lb) (pB lb) (pC lb) (pD lb) a25 lG.length c25 (pA lG) (pB lG) (pC lG) (pD lG) _ (by omega) k23 (by omega) k25 (hD.ext Bc) I23.out.rects O25.out.rects).mono ?_
    rintro e w26 ⟨rfl, b26⟩
    rw [EQ.out]
    clear I23
    clear O25
    have I1 := Lib.hid (I1.out.ext b26)
    have S22 := Lib.hid (S22.out.ext b26)
    have Bc := Ext.trans Bc b26
    clear b26
    go_wp2_with fail
    refine (copyRectsL_any _ a22 c22 lb _ (by omega) (Nat.le_refl _) S22.out).mono ?_
    rintro e w27 ⟨h27, c27, rfl, k27, i27, b27⟩
    have i27 := Lib.hid i27
    have I1 := Lib.hid (I1.out.ext b27)
    have S22 := Lib.hid (S22.out.ext b27)
    have Bc := Ext.trans Bc b27
    clear b27
    have I27 := i27
    clear i27
    go_wp2_with fail
    refine (shrinkC_any (some ⟨h27, 0, none⟩) lb.length c27 (pA lb) (pB lb) (pC lb) (pD lb) k _ (by omega) k27 (hD.ext Bc) I27.out.rects).mono ?_
    rintro e w28 ⟨⟨a28, c28, rfl, k28, o28⟩, b28⟩
    rw [ES.out] at k28 o28 ⊢
    have o28 := Lib.hid o28
    clear I27
    have I1 := Lib.hid (I1.out.ext b28)
    have S22 := Lib.hid (S22.out.ext b28)
    have Bc := Ext.trans Bc b28
    clear b28
    have O28 := o28
    clear o28
    go_wp2_with fail
    refine (copyRects_any _ h1 c1 l1 _ (by omega) I1.out).mono ?_
    rintro e w29 ⟨h29, c29, rfl, k29, i29, b29⟩
    have i29 := Lib.hid i29
    have I1 := Lib.hid (I1.out.ext b29)
    have S22 := Lib.hid (S22.out.ext b29)
    have O28 := Lib.hid (O28.out.below b29)
    have Bc := Ext.trans Bc b29
    clear b29
    have I29 := i29
    clear i29
    go_wp2_with fail
    refine (implCovers_any merge4_any a28 lS.length c28 (pA lS) (pB lS) (pC lS) (pD lS) (some ⟨h29, 0, none⟩) l1.length c29 (pA l1) (pB l1) (pC l1) (pD l1) _ (by omega) k28 (by omega) k29 (hD.ext Bc) O28.out.rects I29.out.rects).mono ?_
    rintro e w30 ⟨rfl, b30⟩
    rw [EQ2.out]
    clear O28
    clear I29
    have I1 := Lib.hid (I1.out.ext b30)
    have S22 := Lib.hid (S22.out.ext b30)
    have Bc := Ext.trans Bc b30
    clear b30
    go_wp2_with fail
    refine (specGrow_all (some ⟨h1, 0, none⟩) l1.length c1 (pA l1) (pB l1) (pC l1) (pD l1) k _ (by omega) I1.out.rects).mono ?_
    rintro e w31 ⟨⟨a31, c31, rfl, r31⟩, b31⟩
    rw [EG.out] at r31 ⊢
    have r31 := Lib.hid r31
    have I1 := Lib.hid (I1.out.ext b31)
    have S22 := Lib.hid (S22.out.ext b31)
    have Bc := Ext.trans Bc b31
    clear b31
    have S31 := r31
    clear r31
    go_wp2_with fail
    refine (specCovers_any a22 lb.length c22 (pA lb) (pB lb) (pC lb) (pD lb) a31 lG.length c31 (pA lG) (pB lG) (pC lG) (pD lG) _ (by omega) (by omega) S22.out S31.out).mono ?_
    rintro e w32 ⟨rfl, b32⟩
    rw [EQ.out]
    have Bc := Ext.trans Bc b32
    go_wp2_with fail
    go_ret
    exact ⟨rfl, Bc⟩
  · have hp1 : ¬ (len : Int).tmod 2 = 0 := by rw [Int.tmod_eq_emod_of_nonneg (by omega)]; omega
    obtain ⟨lb, hlb⟩ : ∃ l, l = l2 := ⟨_, rfl⟩
    have HCB := Lib.hid (hlb.trans HC2.out)
    have hnb := canon_lenS HCB.out
    subst hlb
    obtain ⟨lS, hlS⟩ : ∃ l, l = szL srF (pA lb) (pB lb) (pC lb) (pD lb) lb.length k := ⟨_, rfl⟩
    have hcS := hlS.trans (sz_of_canon (F := srF) (fun f g k h j hj => shF_congr h k k hj) HCB.out HK.out)
    have hnS := canon_lenS hcS
    have ES := Lib.hid hlS.symm
    obtain ⟨q, hq⟩ : ∃ q, q = cvB (pA lb) (pB lb) (pC lb) (pD lb) lb.length (pA lG) (pB lG) (pC lG) (pD lG) lG.length := ⟨_, rfl⟩
    have EQ := Lib.hid hq.symm
    have EQ2 := Lib.hid ((cv_gal HCB.out HC1.out HCG.out hcS).trans hq.symm)
    have hqq : (q == q) = true := by cases q <;> rfl
    clear hlS hcS hq
    go_wp2_with fail
    refine (copyRects_any _ h2 c2 lb _ (by omega) I2.out).mono ?_
    rintro e w33 ⟨h33, c33, rfl, k33, i33, b33⟩
    have i33 := Lib.hid i33
    have I1 := Lib.hid (I1.out.ext b33)
    have I2 := Lib.hid (I2.out.ext b33)
    have Bc := Ext.trans Bc b33
    clear b33
    have I33 := i33
    clear i33
    go_wp2_with fail
    refine (copyRects_any _ h1 c1 l1 _ (by omega) I1.out).mono ?_
    rintro e w34 ⟨h34, c34, rfl, k34, i34, b34⟩
    have i34 := Lib.hid i34
    have I1 := Lib.hid (I1.out.ext b34)
    have I2 := Lib.hid (I2.out.ext b34)
    have I33 := Lib.hid (I33.out.ext b34)
    have Bc := Ext.trans Bc b34
    clear b34
    have I34 := i34
    clear i34
    go_wp2_with fail
    refine (growC_any (some ⟨h34, 0, none⟩) l1.length c34 (pA l1) (pB l1) (pC l1) (pD l1) k _ (by omega) k34 (hD.ext Bc) I34.out.rects).mono ?_
    rintro e w35 ⟨⟨a35, c35, rfl, k35, o35⟩, b35⟩
    rw [EG.out] at k35 o35 ⊢
    have o35 := Lib.hid o35
    clear I34
    have I1 := Lib.hid (I1.out.ext b35)
    have I2 := Lib.hid (I2.out.ext b35)
    have I33 := Lib.hid (I33.out.ext b35)
    have Bc := Ext.trans Bc b35
    clear b35
    have O35 := o35
    clear o35
    go_wp2_with fail
    refine (implCovers_any merge4_any (some ⟨h33, 0, none⟩) lb.length c33 (pA lb) (pB lb) (pC lb) (pD lb) a35 lG.length c35 (pA lG) (pB lG) (pC lG) (pD lG) _ (by omega) k33 (by omega) k35 (hD.ext Bc) I33.out.rects O35.out.rects).mono ?_
    rintro e w36 ⟨rfl, b36⟩
    rw [EQ.out]
    clear I33
    clear O35
    have I1 := Lib.hid (I1.out.ext b36)
    have I2 := Lib.hid (I2.out.ext b36)
    have Bc := Ext.trans Bc b36
    clear b36
    go_wp2_with fail
    refine (copyRects_any _ h2 c2 lb _ (by omega) I2.out).mono ?_
    rintro e w37 ⟨h37, c37, rfl, k37, i37, b37⟩
    have i37 := Lib.hid i37
    have I1 := Lib.hid (I1.out.ext b37)
    have I2 := Lib.hid (I2.out.ext b37)
    have Bc := Ext.trans Bc b37
    clear b37
    have I37 := i37
    clear i37
    go_wp2_with fail
    refine (shrinkC_any (some ⟨h37, 0, none⟩) lb.length c37 (pA lb) (pB lb) (pC lb) (pD lb) k _ (by omega) k37 (hD.ext Bc) I37.out.rects).mono ?_
    rintro e w38 ⟨⟨a38, c38, rfl, k38, o38⟩, b38⟩
    rw [ES.out] at k38 o38 ⊢
    have o38 := Lib.hid o38
    clear I37
    have I1 := Lib.hid (I1.out.ext b38)
    have I2 := Lib.hid (I2.out.ext b38)
    have Bc := Ext.trans Bc b38
    clear b38
    have O38 := o38
    clear o38
    go_wp2_with fail
    refine (copyRects_any _ h1 c1 l1 _ (by omega) I1.out).mono ?_
    rintro e w39 ⟨h39, c39, rfl, k39, i39, b39⟩
    have i39 := Lib.hid i39
    have I1 := Lib.hid (I1.out.ext b39)
    have I2 := Lib.hid (I2.out.ext b39)
    have O38 := Lib.hid (O38.out.below b39)
    have Bc := Ext.trans Bc b39
    clear b39
    have I39 := i39
    clear i39
    go_wp2_with fail
    refine (implCovers_any merge4_any a38 lS.length c38 (pA lS) (pB lS) (pC lS) (pD lS) (some ⟨h39, 0, none⟩) l1.length c39 (pA l1) (pB l1) (pC l1) (pD l1) _ (by omega) k38 (by omega) k39 (hD.ext Bc) O38.out.rects I39.out.rects).mono ?_
    rintro e w40 ⟨rfl, b40⟩
    rw [EQ2.out]
    clear O38
    clear I39
    have I1 := Lib.hid (I1.out.ext b40)
    have I2 := Lib.hid (I2.out.ext b40)
    have Bc := Ext.trans Bc b40
    clear b40
    go_wp2_with fail
    refine (specGrow_all (some ⟨h1, 0, none⟩) l1.length c1 (pA l1) (pB l1) (pC l1) (pD l1) k _ (by omega) I1.out.rects).mono ?_
    rintro e w41 ⟨⟨a41, c41, rfl, r41⟩, b41⟩
    rw [EG.out] at r41 ⊢
    have r41 := Lib.hid r41
    have I1 := Lib.hid (I1.out.ext b41)
    have I2 := Lib.hid (I2.out.ext b41)
    have Bc := Ext.trans Bc b41
    clear b41
    have S41 := r41
    clear r41
    go_wp2_with fail
    refine (specCovers_any (some ⟨h2, 0, none⟩) lb.length c2 (pA lb) (pB lb) (pC lb) (pD lb) a41 lG.length c41 (pA lG) (pB lG) (pC lG) (pD lG) _ (by omega) (by omega) I2.out.rects S41.out).mono ?_
    rintro e w42 ⟨rfl, b42⟩
    rw [EQ.out]
    have Bc := Ext.trans Bc b42
    go_wp2_with fail
    go_ret
    exact ⟨rfl, Bc⟩
end Go.Proofs.YtgccnongfdbalaaDoor

namespace Go.Proofs.YtgccnongfdbalaaDoor.fnSizing
open Go.Proofs.YtgccnongfdbalaaDoor
open Go.ChangeShapes Go.WideShapes Go.ChangeAt Go.RowKit Go.Joins
open Go.ChangeMaps (open_string shut_string)
set_option linter.unusedVariables false

theorem addN0 (x : Addr) : x.add 0 = x := by simp [Addr.add]
theorem addNk (b o k : Nat) : (⟨b, o, none⟩ : Addr).add k = ⟨b, o + k, none⟩ := by
  unfold Addr.add
  split
  · rename_i h; subst h; rfl
  · rfl
theorem own : ownKnob Tryd.prog.godebug = none := by kernel_rfl
theorem laidOut : laidOutB Tryd.prog = true := by kernel_rfl

abbrev laid := Rows.fnSizingRow.laid
set_option maxRecDepth 100000 in
theorem lifted (os : Os) (started : os.Started) (H : Type) (enc : TypeId × Value → H) :
    ReturnsInHanded {} Tryd.checked os 5 .any (fun w args => (Rows.fnSizingSpec.pre enc Tryd.prog Tryd.f5 Rows.fnSizingRow.domain false w args ∧ laidMetH Tryd.prog Rows.fnSizingRow.laid w) ∧ sizedMet enc Tryd.prog Tryd.f5 (OpenSpec.ofChange Rows.fnSizingSpec) false w args)
      (Rows.fnSizingSpec.post enc Tryd.prog Tryd.f5 false true false false) := by
  refine returnsInHanded_of_change_and (C := Tryd.checked) (X := fun w _ => laidMetH Tryd.prog Rows.fnSizingRow.laid w) (fun _ _ _ hh h => h.of_heap hh) own started (by kernel_rfl) Tryd.func5
    (ChangeSpec.witness_shaped (enc := enc) (C := Tryd.checked) (os := os) (X := fun w _ => laidMetH Tryd.prog Rows.fnSizingRow.laid w) false (World.laidAll Tryd.prog os Rows.fnSizingRow.laid) #[.slice none 0 0] 8 (World.laidAll_os _ _ _)
      (World.shaped_of_ZipB (by kernel_rfl) (by kernel_rfl)) (by kernel_rfl) (by kernel_rfl) (by kernel_rfl)
      (by rw [MakeChecks.laidMetH_plain _ _ _ (by kernel_rfl)]; exact laidMet_laidAll _ (by kernel_rfl) (by kernel_rfl))) ?_
  intro W base args ds gs before hval0 hW hcnd _ hL _
  have hval : ∀ (j : Nat) t v, Tryd.f5.params[j]? = some t → args[j]? = some v → Value.okWide Tryd.prog W .any base t v := hval0
  have hW' := hW
  obtain ⟨p, q, hA0, hV, rfl, hfz, hnd⟩ := hW
  have hA : DataW.TrodAll enc Tryd.prog W 0 (fun _ => true) true Tryd.f5.params.toList args.toList ds p := hA0
  rw [Tryd.params5] at hA hval
  obtain ⟨v0, vs0, d0, ds0, p0, q0, hargs, rfl, rfl, h0, r0⟩ := trodAll_cons hA
  obtain ⟨rfl, rfl, rfl⟩ := trodAll_nil r0
  obtain rfl : args = #[v0] := by cases args; simp_all
  obtain ⟨g0, gt0, gcs0, gf0, gd0, gp0, rfl, hg1, hg2, hg3, hg4, hg5⟩ := trodVars_one hV
  have k0 := h0
  have lt0 : ∀ x ∈ p0, x.block < W.heap.size := by obtain ⟨m, hm⟩ := k0; exact DataW.trod_lt m _ _ _ hm
  obtain ⟨a0, len0, cap0, rfl⟩ := okWide_slice Tryd.underlying22 (hval 0 22 v0 rfl rfl)
  have code0 : len0 ≤ maxLen ∧ CodeIs W.heap.size W a0 len0 := by
    obtain ⟨fuel, hf⟩ := h0
    rcases open_ints Tryd.underlying22 Tryd.underlying5 (by kernel_rfl) hf with ⟨hcs, _⟩ | ⟨x, l, c, zs, hcs, _, hl, hm, hz, _, hcell, hwz⟩
    · simp [Value.cells] at hcs
      obtain ⟨rfl, rfl, rfl⟩ := hcs
      exact ⟨Nat.zero_le _, fun k hk => absurd hk (by omega)⟩
    · simp [Value.cells] at hcs
      obtain ⟨rfl, rfl, rfl⟩ := hcs
      have hz' := hz
      simp at hz'
      refine ⟨by omega, fun k hk => ?_⟩
      have hk' : k < zs.length := by omega
      have hc0 := hcell 0 (by omega)
      have hc := hcell k hk'
      rw [addN0] at hc0
      have hsp : x.spot = none := Go.Proofs.cell_spot hc0
      have hw := hwz (zs.getD k 0) (by rw [List.getD, List.getElem?_eq_getElem hk']; exact List.getElem_mem hk')
      have hb := bounds_u8 hw
      obtain ⟨xb, xo, xs⟩ := x
      obtain rfl : xs = none := hsp
      rw [addNk] at hc
      exact ⟨xb, xo, zs.getD k 0, rfl, World.block_lt_of_cell? W ⟨xb, xo + k, none⟩ hc, hc, hb.1, hb.2⟩
  have hEnv : EnvW W := ⟨deb_of_laid hL (by kernel_rfl) (by simp [Rows.fnSizingRow]), chip_of_laid hL (by kernel_rfl) (by simp [Rows.fnSizingRow])⟩
  clear hA0 hval0
  refine (walkSizing a0 len0 cap0 W code0.1 code0.2 hEnv).mono fun e W' ⟨he, bel⟩ => ?_
  subst he
  exact ⟨_, rfl, _, _, _, [], _, _, hW', trodAll_mk1 (shut_bool Tryd.underlying4 _), (trodAll_cons_mk (Below.trod laidOut (by kernel_rfl) (of_decide_eq_true (by kernel_rfl)) k0 bel lt0) trodAll_mk0), (Below.trodVars laidOut bel (by kernel_rfl) hV), bel.frame _, fun h => by cases h⟩

end Go.Proofs.YtgccnongfdbalaaDoor.fnSizing
