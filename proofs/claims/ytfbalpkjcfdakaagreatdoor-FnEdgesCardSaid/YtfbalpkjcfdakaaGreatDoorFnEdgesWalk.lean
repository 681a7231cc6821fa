/- FnEdges answers true. Conditions: the code's bytes are in memory; the variables that regions read hold their tables, and the matrices' variable its own. -/
import Derived.Test.YtfbalpkjcfdakaaGreatDoorZI
import Derived.Test.YtfbalpkjcfdakaaGreatDoorEfA
import Derived.Test.YtfbalpkjcfdakaaGreatDoorEgZ
import Derived.Test.YtfbalpkjcfdakaaGreatDoorQT
import Derived.Test.YtfbalpkjcfdakaaGreatDoorQI
namespace Go.Proofs.YtfbalpkjcfdakaaGreatDoor
open Go.RowKit Go.Shelf
set_option linter.unusedVariables false
set_option linter.unusedSimpArgs false
attribute [local go_sem ↓] Go.wp_at_zero Go.wp_at_succ


/-- Nothing appended to a row of the call's own, from wherever. -/
theorem run_append_emptyE {P : Program} {w : World} (base : Nat) (t ty e : TypeId) (i : TypeInfo) (size : Nat) (ht : P.underlying t = some (.slice e)) (hi : P.info? e = some i)
    (v : Value) (n : Nat) (xs : List Value) (hown : w.ownsRow base e size v n xs) (sa : Option Addr) (c : Nat) :
    (Builtin.append_ #[t, t] ty #[v, .slice sa 0 c]).run P w = .ok v w := by
  rcases hown.2 with ⟨rfl, rfl⟩ | ⟨g, cap, cur, rfl, _, _, hnc, _⟩ <;> cases sa
  · simp [Builtin.append_, run_underlying ht, sizeOf, typeInfo, hi, Builtin.lenOf, Builtin.firstCells]
  · simp [Builtin.append_, run_underlying ht, sizeOf, typeInfo, hi, Builtin.lenOf, Builtin.firstCells, loadCells, loadCellsFrom]
  · simp [Builtin.append_, run_underlying ht, sizeOf, typeInfo, hi, Builtin.lenOf, Builtin.firstCells, hnc, storeCells]
  · simp [Builtin.append_, run_underlying ht, sizeOf, typeInfo, hi, Builtin.lenOf, Builtin.firstCells, hnc, storeCells, loadCells, loadCellsFrom]
theorem wpList_append_own_opt {P : Program} {w : World} {ops : Array Oper} {rest : List Oper} {o : Oper} {a : Act} {Q : Exit → Act → World → Prop} (hgd : o.guard = none) (s x : Operand) (t : TypeId)
    (ho : o.op = .call { callee := .builtin .append, args := #[s, x], argTypes := #[t, t] })
    (base : Nat) (e : TypeId) (i : TypeInfo) (z : Value) (size bytes : Nat) (ht : P.underlying t = some (.slice e)) (hi : P.info? e = some i) (hz : i.zero = some z)
    (hsize : i.size = size) (hby : i.bytes = bytes) (hzs : z.cells.size = size) (hsz : 0 < size)
    (v : Value) (n : Nat) (xs : List Value) (hs : a.eval s = v) (hown : w.ownsRow base e size v n xs)
    (sa : Option Addr) (m c : Nat) (news : List Value) (hx : a.eval x = .slice sa m c) (hl : news.length = m * size) (hsrc : m = 0 ∨ ∃ ad, sa = some ad ∧ ∀ j u, news[j]? = some u → w.cell? (ad.add j) = some u) (h1 : ∀ u ∈ news, u.oneCell' = true)
    (h63 : n + m ≤ maxLen) (hbytes : (n + m) * bytes ≤ 140737488355328) (hbase : base ≤ w.heap.size)
    (h : ∀ v' w', w'.ownsRow base e size v' (n + m) (xs ++ news) → w.grownBy w' v.ownBlock → (v' = .slice none 0 0 ↔ v = .slice none 0 0 ∧ m = 0) → wpList P ops Q rest (a.put o.dst v') w') : wpList P ops Q (o :: rest) a w := by
  by_cases hm : m = 0
  · subst hm
    have hn0 : news = [] := List.eq_nil_of_length_eq_zero (by omega)
    subst hn0
    refine wpList_plain hgd fun K hK => ?_
    have hrun := run_append_emptyE (P := P) (w := w) base t o.type e i size ht hi v n xs hown sa c
    unfold Oper.wp
    simp [execOp, ho, resolve, invoke, builtin, hs, hx, hrun, Result.andThen]
    exact hK _ _ (h v w (by simpa using hown) (World.grownBy.refl _ _) (by simp))
  · obtain ⟨ad, rfl, hnews⟩ := hsrc.resolve_left hm
    exact wpList_append_own w hgd s x t ho base e i z size bytes ht hi hz hsize hby hzs hsz v n xs hs hown ad m c news hx hl hnews h1 h63 hbytes hbase h

theorem RowR.recIsE {w : World} {g : Nat} {l : List R4} (h : RowR w g l.length (pA l) (pB l) (pC l) (pD l)) (hg : g < w.heap.size) : RecIs 0 w g l := ⟨Nat.zero_le _, hg, fun i r hr => by
  have hi := (List.getElem?_eq_some_iff.1 hr).1
  have e : l.getD i default = r := by rw [List.getD, hr]; rfl
  obtain ⟨⟨c0, c1, c2, c3⟩, _⟩ := h i hi
  unfold pA at c0; unfold pB at c1; unfold pC at c2; unfold pD at c3
  rw [e] at c0 c1 c2 c3
  exact ⟨c0, c1, c2, c3⟩⟩
theorem EdgesOf.els {f : Nat → Bool} {L : List R4} (h : EdgesOf f L) : elsB (pA L) (pB L) (pC L) (pD L) L.length = true := by
  cases hb : elsB (pA L) (pB L) (pC L) (pD L) L.length with
  | true => rfl
  | false =>
    exfalso
    unfold elsB at hb
    obtain ⟨i, hi, hf⟩ := List.all_eq_false.1 hb
    have hi := List.mem_range.1 hi
    have hl := ((h.2 _).1 (List.mem_of_getElem? (getD_get hi))).len
    have := elV_f (by simpa [pA, pB, pC, pD] using hf : elB (L.getD i default).a (L.getD i default).b (L.getD i default).c (L.getD i default).d = false)
    omega
theorem EdgesOf.rf {f : Nat → Bool} {L : List R4} (h : EdgesOf f L) (hn : L.length ≤ 12800) : rfB (pA L) (pB L) (pC L) (pD L) L.length = true ∧ rfL (pA L) (pB L) (pC L) (pD L) L.length = canonL f := by
  have hc : ∀ k, k < 6400 → fillF L k = f k := fun k hk => edges_fill h k hk
  have := rfB_t (P := pA L) (Q := pB L) (R := pC L) (S := pD L) hn h.els (by rw [listR_pA]; exact h.congr fun k hk => (hc k hk).symm)
  rw [listR_pA] at this
  exact ⟨this.1, this.2.trans (canonL_congr hc)⟩
set_option maxHeartbeats 4000000 in
theorem drawBE_any (a : Option Addr) (len cap : Nat) (w : World) (hlen : len ≤ 8192) (hC : CodeIs w.heap.size w a len) :
    Calls Tryz.prog 33 #[.slice a len cap] w fun e w' => (∃ h c l, e = .returned (.slice (some ⟨h, 0, none⟩) l.length c) ∧ l.length ≤ 3281 ∧ RecIs w.heap.size w' h l) ∧ Below w.heap.size w w' := by
  go_enter Tryz.func33, Tryz.ntmps33
  go_wp2_with fail
  refine (l01From_any w.heap.size a len cap _ hlen (Nat.le_refl _) hC).mono ?_
  rintro e w1 ⟨g, hg0, hg1, rfl, bw1, hS1⟩
  have A1 := Lib.hid (show SrcAt w.heap.size g w1 w1 a len cap from ⟨Only.refl _ _, hS1, hC.below bw1, bw1.size⟩)
  have B1 := Lib.hid bw1
  have l1 := bw1.size
  clear hS1 bw1 hC
  go_wp2_with fail
  refine (drawRegion_any w.heap.size g a len cap w1 w1 hlen l1 hg0 A1.out).mono ?_
  rintro e w2 ⟨h2, c2, f2, rfl, hI2, hA2⟩
  have I3 := Lib.hid hI2
  have A3 := Lib.hid hA2
  have l2 := hA2.1.size
  have n2 := canonL_len f2
  clear hI2 hA2 A1
  go_wp2_with fail
  refine (spoil_any w1.heap.size w.heap.size g h2 c2 (canonL f2) 12 a len cap w2 w2 hlen hg0 (by omega) A3.out.rebase hg1 (by omega) n2 I3.out (by omega) (by omega)).mono ?_
  rintro e w5 ⟨h5, c5, l5, rfl, n5, hI5, hA5⟩
  have I5 := Lib.hid (hI5.lower l1)
  have O5 := Lib.hid (A3.out.1.trans hA5.1)
  clear hI5 hA5 A3 I3
  go_wp2_with fail
  go_ret
  exact ⟨⟨h5, c5, l5, rfl, n5, I5.out⟩, Only.below B1.out O5.out l1 hg0⟩

set_option maxRecDepth 100000 in
set_option maxHeartbeats 16000000 in
theorem walkFnEdges (a : Option Addr) (len cap : Nat) (w : World) (hlen : len ≤ maxLen) (hC : CodeIs w.heap.size w a len) (hD : EnvW w) (hM : Mats w) :
    Calls Tryz.prog 6 #[.slice a len cap] w fun e w' => e = .returned (.bool true) ∧ Below w.heap.size w w' := by
  by_cases hbig : 4096 < len
  · have hb : decide (4096 < len) = true := decide_eq_true hbig
    go_enter Tryz.func6, Tryz.ntmps6
    go_wp2_with fail
    refine (lawBigB_any _ _ _ _).mono ?_
    rintro e w1 ⟨rfl, rfl⟩
    rw [hb]
    go_wp2_with fail
    go_ret
    exact ⟨rfl, Below.refl _ _⟩
  have hb : decide (4096 < len) = false := decide_eq_false hbig
  have HC := Lib.hid hC
  have HDD := Lib.hid hD
  have HMM := Lib.hid hM
  have hmz := hM.size
  clear hC hD hM
  go_enter Tryz.func6, Tryz.ntmps6
  go_wp2_with fail
  refine (lawBigB_any _ _ _ _).mono ?_
  rintro e w1 ⟨rfl, rfl⟩
  rw [hb]
  go_wp2_with fail
  refine (drawBE_any a len cap _ (by omega) HC.out).mono ?_
  rintro e w2 ⟨⟨h1, c1, l1, rfl, n1, i1⟩, Bc⟩
  have I1 := Lib.hid i1
  clear i1 HC hb hbig
  go_wp2_with fail
  refine (specIsRegion_any (some ⟨h1, 0, none⟩) l1.length c1 (pA l1) (pB l1) (pC l1) (pD l1) _ (by omega) I1.out.rects).mono ?_
  rintro e wr1 ⟨rfl, br1⟩
  have I1 := Lib.hid (I1.out.ext br1)
  have Bc := Ext.trans Bc br1
  clear br1
  cases hok1 : okR (pA l1) (pB l1) (pC l1) (pD l1) l1.length with
  | false =>
    go_wp2_with fail
    go_ret
    exact ⟨rfl, Bc⟩
  | true =>
  have hbl := beL_len (pA l1) (pB l1) (pC l1) (pD l1) l1.length
  have hib := fun m c w' hc hD' hM' hR' => implBoundaryEdges2_any m l1.length c (pA l1) (pB l1) (pC l1) (pD l1) w' (by omega) hc hD' hM' hR'
  have hip := fun m c w' hc hD' hM' hR' => implPerimeter_any m l1.length c (pA l1) (pB l1) (pC l1) (pD l1) w' (by omega) hc hD' hM' hR'
  have hsp := fun m c w' hR' => specPerimeter_any m l1.length c (pA l1) (pB l1) (pC l1) (pD l1) w' (by omega) hR'
  obtain ⟨E, hE⟩ : ∃ E, E = beL (pA l1) (pB l1) (pC l1) (pD l1) l1.length := ⟨_, rfl⟩
  obtain ⟨z, hz⟩ : ∃ z, z = perV (pA l1) (pB l1) (pC l1) (pD l1) l1.length := ⟨_, rfl⟩
  rw [← hE] at hbl hib
  rw [← hz] at hip hsp
  have HZ : Hid (∀ L, EdgesOf (covF (pA l1) (pB l1) (pC l1) (pD l1) l1.length) L → (L.map lenE).sum = z) := Lib.hid fun L h => by
    rw [hz]; unfold perV; rw [if_pos hok1]; exact edges_len h
  have HOK := Lib.hid hok1
  have HIB := Lib.hid hib
  have HIP := Lib.hid hip
  have HSP := Lib.hid hsp
  clear hib hip hsp hE hz hok1
  go_wp2_with fail
  refine (copyRects_any _ h1 c1 l1 _ (by omega) I1.out).mono ?_
  rintro e u1 ⟨g1, d1, rfl, hd1, k1, bu1⟩
  have K1 := Lib.hid k1
  have I1 := Lib.hid (I1.out.ext bu1)
  have Bc := Ext.trans Bc bu1
  clear k1 bu1
  go_wp2_with fail
  refine (HIB.out (some ⟨g1, 0, none⟩) d1 _ hd1 (HDD.out.ext Bc) (HMM.out.below Bc hmz) K1.out.rects).mono ?_
  rintro e u2 ⟨⟨a5, c5, rfl, o5⟩, hE1, bu2⟩
  have O5 := Lib.hid o5.rects
  have OW := Lib.hid o5
  have E1 := Lib.hid (hE1 HOK.out)
  have I1 := Lib.hid (I1.out.ext bu2)
  have Bc := Ext.trans Bc bu2
  clear K1 o5 hE1 bu2
  go_wp2_with fail
  go_loopw [5, 6] (fun s5 s6 wr => ∃ i : Nat, i ≤ E.length ∧ s6 = .int .i64 (i : Nat) ∧ s5 = .int .i64 ((E.take i).map lenE).sum ∧ Below u2.heap.size u2 wr) (fun _ s6 _ => E.length - (intOf s6).toNat)
  case atStart => exact ⟨0, by omega, rfl, by simp, Below.refl _ _⟩
  case round =>
    obtain ⟨i, hil, rfl, rfl, hW⟩ := hrel
    by_cases hlt : i < E.length
    · have q1 : ((i : Nat) : Int) < (E.length : Int) := by omega
      have q0 : (0 : Int) ≤ ((i : Nat) : Int) := by omega
      have hs1 := lens_take E1.out i
      have hs2 := lens_step hlt
      have hti : (E.take i).length = i := by rw [List.length_take]; omega
      rw [hti] at hs1
      have hmem : E.getD i default ∈ E := List.mem_of_getElem? (getD_get hlt)
      have hle := ((E1.out.2 _).1 hmem).len
      obtain ⟨e, he⟩ : ∃ e, e = E.getD i default := ⟨_, rfl⟩
      obtain ⟨b1, o1, rfl, hb1, c0, c1', c2, c3⟩ := (RectsIs.below O5.out hW) i hlt
      unfold pA at c0; unfold pB at c1'; unfold pC at c2; unfold pD at c3
      rw [← he] at c0 c1' c2 c3 hle hs2
      have hIE := fun w => implEdgeLength_any e.a e.b e.c e.d w
      rw [hle.1] at hIE
      obtain ⟨d, hd⟩ : ∃ d, d = lenE e := ⟨_, rfl⟩
      obtain ⟨v, hv⟩ : ∃ v, v = ((E.take i).map lenE).sum := ⟨_, rfl⟩
      rw [← hd] at hIE hle hs2
      rw [← hv] at hs1 hs2 ⊢
      obtain ⟨d0, d1'⟩ := hle.2
      obtain ⟨v0, v1⟩ := hs1
      have v2 : v ≤ 100000000 := by omega
      have HS := Lib.hid hs2
      clear he hd hv hmem hle hs2 hti
      go_wp2_with (go_at_call 35; refine (hIE _).mono ?_; rintro r w3 ⟨rfl, bw3⟩)
      go_roundw
      case rel => exact ⟨i + 1, by omega, by go_num, by rw [HS.out], Ext.trans hW bw3⟩
      case measure => simp [intOf]; omega
    · have q1 : ¬ ((i : Nat) : Int) < (E.length : Int) := by omega
      obtain ⟨N, hN⟩ : ∃ N, N = E.length := ⟨_, rfl⟩
      obtain rfl : i = E.length := by omega
      rw [List.take_length, HZ.out E E1.out]
      have I1 := Lib.hid (I1.out.ext hW)
      have O5 := Lib.hid (RectsIs.ext O5.out hW)
      have Bc := Ext.trans Bc hW
      obtain ⟨i0, hi, hz0, hz1, hz2⟩ := info_parts (infoE.trans Tryz.infoR)
      obtain ⟨wz, hwz⟩ : ∃ wz, wz = wr.alloc (.cells #[] 55) := ⟨_, rfl⟩
      have sz : wz.heap.size = wr.heap.size + 1 := by rw [hwz]; simp
      have bz : Below wr.heap.size wr wz := by rw [hwz]; (repeat (first | (with_reducible exact Below.refl _ _) | (with_reducible refine Ext.drewN ?_ _) | (with_reducible refine Below.drew ?_) | (with_reducible refine Ext.alloc ?_ _) | (with_reducible refine Ext.setCell ?_ (by simp; try omega) _) | (with_reducible refine Ext.trans ?_ (by assumption)) | (with_reducible assumption) | exact Below.refl _ _))
      have OZ : Hid (wz.ownsRow wr.heap.size 55 4 (.slice (some ⟨wr.heap.size, 0, none⟩) 0 0) 0 []) := Lib.hid (by
        have hm := World.ownsRow_made (base := wr.heap.size) (size := 4) (e := 55) wr #[] 0 (Nat.le_refl _) (by unfold maxLen; decide) rfl
        rw [hwz]
        exact hm)
      have SR : Hid (E.length = 0 ∨ ∃ ad, a5 = some ad ∧ ∀ j u, (recCells E)[j]? = some u → wz.cell? (ad.add j) = some u) := Lib.hid (by
        rcases OW.out with hE0 | ⟨h, rfl, h0, h1, hr⟩
        · exact .inl (by rw [hE0]; rfl)
        · exact .inr ⟨_, rfl, erec_cells (B := 0) ((RowR.recIsE hr h1).extE (Ext.trans hW bz))⟩)
      go_upto_region 12 with fail
      refine wp_region_lit ?_
      go_wp2_with (at_builtin; go_loud (rw [← hwz]; refine wpList_append_own_opt rfl _ _ 47 rfl wr.heap.size 55 i0 (.agg #[.int .i64 0, .int .i64 0, .int .i64 0, .int .i64 0]) 4 32 Tryz.underlying47 hi hz0 hz1 hz2 rfl (by decide) _ _ _ rfl OZ.out a5 E.length c5 (recCells E) rfl (recCells_len E) SR.out (erec_one E) (by unfold maxLen; omega) (by omega) (by omega) ?_; intro v' w4 hown4 hgrow hnil))
      rw [Nat.zero_add, List.nil_append] at hown4
      rcases hown4.2 with ⟨rfl, _⟩ | ⟨g4, c4, cur, rfl, _, _, hc4, _⟩
      · exfalso; have := (hnil.1 rfl).1; cases this
      have b4 : Below wr.heap.size wr w4 := bz.grown hgrow bz.size (fun j hj => (OZ.out.lt j hj).1)
      have HI := Lib.hid (erec_own hown4)
      have I1 := Lib.hid (I1.out.ext b4)
      have Bc := Ext.trans Bc b4
      have hrf := EdgesOf.rf E1.out (EdgesOf.len128 E1.out)
      have hcan := (okR_canon HOK.out).trans (listR_pA l1)
      have hRF := fun g c w' hD' hM' hR' => implRegionFromEdges_any g 0 E.length c (pA E) (pB E) (pC E) (pD E) w' (by omega) hD' hM' hR'
      simp only [hrf.1, hrf.2, hcan] at hRF
      clear hown4 hgrow hnil hrf hcan SR OZ OW hwz
      go_wp2_with fail
      refine (hRF g4 c4 _ (HDD.out.ext Bc) (HMM.out.below Bc hmz) HI.out.rects).mono ?_
      rintro e u5 ⟨⟨a7, c7, rfl, o7⟩, bu5⟩
      have O7 := Lib.hid o7.rects
      have I1 := Lib.hid (I1.out.ext bu5)
      have Bc := Ext.trans Bc bu5
      clear o7 bu5 HI hRF
      go_wp2_with fail
      refine (sameRects_any a7 l1.length c7 (pA l1) (pB l1) (pC l1) (pD l1) (some ⟨h1, 0, none⟩) l1.length c1 (pA l1) (pB l1) (pC l1) (pD l1) _ (by omega) (by omega) O7.out I1.out.rects).mono ?_
      rintro e u6 ⟨rfl, bu6⟩
      rw [decide_eq_true rfl]
      have I1 := Lib.hid (I1.out.ext bu6)
      have Bc := Ext.trans Bc bu6
      clear bu6 O7
      go_wp2_with fail
      refine (copyRects_any _ h1 c1 l1 _ (by omega) I1.out).mono ?_
      rintro e u7 ⟨g8, d8, rfl, hd8, k8, bu7⟩
      have K8 := Lib.hid k8
      have I1 := Lib.hid (I1.out.ext bu7)
      have Bc := Ext.trans Bc bu7
      clear k8 bu7
      go_wp2_with fail
      refine (HIP.out (some ⟨g8, 0, none⟩) d8 _ hd8 (HDD.out.ext Bc) (HMM.out.below Bc hmz) K8.out.rects).mono ?_
      rintro e u8 ⟨rfl, bu8⟩
      have I1 := Lib.hid (I1.out.ext bu8)
      have Bc := Ext.trans Bc bu8
      clear bu8 K8
      go_wp2_with fail
      refine (HSP.out (some ⟨h1, 0, none⟩) c1 _ I1.out.rects).mono ?_
      rintro e u9 ⟨rfl, bu9⟩
      have Bc := Ext.trans Bc bu9
      go_wp2_with fail
      go_ret
      exact ⟨rfl, Bc⟩
end Go.Proofs.YtfbalpkjcfdakaaGreatDoor
