/- The program's ComponentAt. Conditions: the rectangles' cells are in memory; the tables are in memory. -/
import Derived.Test.YtepfnnhmplaocaaDoorCpX
import Derived.Test.YtepfnnhmplaocaaDoorRiS
import Derived.Laws.EntriesVeiled
namespace Go.Proofs.YtepfnnhmplaocaaDoor
open Go.RowKit
set_option linter.unusedVariables false
set_option linter.unusedSimpArgs false
attribute [local go_sem ↓] Go.wp_at_zero Go.wp_at_succ

/-- Is the list a region that contains the cell? -/
def hasL (x y : Int) (l : List R4) : Bool := okR (pA l) (pB l) (pC l) (pD l) l.length && hasB (covF (pA l) (pB l) (pC l) (pD l) l.length) x y
theorem hasL_canon (g : Nat → Bool) (x y : Int) : hasL x y (canonL g) = hasB g x y := by
  unfold hasL
  rw [okR_canonL, Bool.true_and]
  exact hasB_congr (fun k hk => cov_canonL_all g hk) x y
theorem ca_eq (P Q R S : Nat → Int) (n : Nat) (x y : Int) : canonL (anyF ((csL P Q R S n).filter (hasL x y))) = caL P Q R S n x y := by
  unfold csL caL
  cases hok : okR P Q R S n with
  | false => rw [if_neg (by simp), if_neg (by simp), List.filter_nil]; exact canon_nil
  | true =>
    rw [if_pos rfl, Bool.true_and]
    obtain ⟨f, hf⟩ : ∃ f, covF P Q R S n = f := ⟨_, rfl⟩
    rw [hf]
    cases hh : hasB f x y with
    | false =>
      rw [if_neg (by simp)]
      have e : (cmpL f false).filter (hasL x y) = [] := by
        rw [List.filter_eq_nil_iff]
        intro l hl
        unfold cmpL at hl
        obtain ⟨s, _, rfl⟩ := List.mem_map.1 hl
        rw [hasL_canon]
        intro h
        have := (has_part.1 h).right
        rw [hh] at this; cases this
      rw [e]; exact canon_nil
    | true =>
      rw [if_pos rfl]
      apply canonL_congr
      intro k hk
      rw [Bool.eq_iff_iff]
      unfold anyF
      rw [List.any_eq_true]
      constructor
      · rintro ⟨l, hl, hc⟩
        obtain ⟨hl, hq⟩ := List.mem_filter.1 hl
        unfold cmpL at hl
        obtain ⟨s, _, rfl⟩ := List.mem_map.1 hl
        rw [hasL_canon] at hq
        rw [← partF_same (has_part.1 hq)]
        unfold covL at hc
        rw [cov_canonL_all _ hk] at hc
        exact hc
      · intro hp
        have hch := hasB_chip hh
        have hcx := cxN_at hch
        have hk0 : cIx x y < 6400 := by unfold cIx; omega
        have hfk : f (cIx x y) = true := by exact (hasB_in hch).symm.trans hh
        obtain ⟨s, hs, hps⟩ := startsTo_all (wide := false) (Nat.le_refl 6400) hk0 hfk
        rw [partF_t, hcx.1, hcx.2] at hps
        refine ⟨canonL (partF f false (cxN s) (cyN s)), List.mem_filter.2 ⟨?_, ?_⟩, ?_⟩
        · unfold cmpL; exact List.mem_map.2 ⟨s, hs, rfl⟩
        · rw [hasL_canon]; exact has_part.2 hps
        · unfold covL; rw [cov_canonL_all _ hk, partF_same hps]; exact hp
theorem ca_len (P Q R S : Nat → Int) (n : Nat) (x y : Int) : (caL P Q R S n x y).length ≤ 3280 := by
  unfold caL; split
  · exact canonL_len _
  · simp
theorem atClosure_any (bx bY : Nat) (x y : Int) (a : Option Addr) (l : List R4) (c : Nat) (w : World) (hx : w.cell? ⟨bx, 0, none⟩ = some (.int .i64 x)) (hy : w.cell? ⟨bY, 0, none⟩ = some (.int .i64 y)) (hl : l.length ≤ 1048576) (hc : l.length ≤ c) (hD : EnvW w) (hR : RectsIs w.heap.size w a l.length (pA l) (pB l) (pC l) (pD l)) :
    Calls Tryd.prog 83 #[.slice a l.length c, .pointer (some ⟨bx, 0, none⟩), .pointer (some ⟨bY, 0, none⟩)] w fun e w' => e = .returned (.bool (hasL x y l)) ∧ Below w.heap.size w w' := by
  have h := implRegionContains a l.length c (pA l) (pB l) (pC l) (pD l) x y w hl hc hD hR
  obtain ⟨b, hb⟩ : ∃ b, hasL x y l = b := ⟨_, rfl⟩
  unfold hasL at hb
  rw [show hasL x y l = b from hb]
  rw [hb] at h
  clear hb hD hR
  go_enter Tryd.func83, Tryd.ntmps83
  go_wp2_with (go_at_call 84; refine h.mono ?_; rintro e w1 ⟨rfl, bw1⟩)
  go_ret
  exact ⟨rfl, bw1⟩
set_option maxHeartbeats 8000000 in
set_option maxRecDepth 100000 in
theorem selAt_any (bx bY : Nat) (x y : Int) (B : Nat) (a : Option Addr) (LL : List (List R4)) (c : Nat) (V : List Value) (g : Nat → Nat) (w : World) (hx : w.cell? ⟨bx, 0, none⟩ = some (.int .i64 x)) (hy : w.cell? ⟨bY, 0, none⟩ = some (.int .i64 y)) (hB : B ≤ w.heap.size) (hD : EnvW w) (hl : LL.length ≤ 6400) (hlen : ∀ l, l ∈ LL → l.length ≤ 3280) (hL : LsOwn B w (.slice a LL.length c) LL V g) :
    Calls Tryd.prog 74 #[.slice a LL.length c, .func (.func 83) #[] #[.pointer (some ⟨bx, 0, none⟩), .pointer (some ⟨bY, 0, none⟩)]] w fun e w' => LLOwn B (LL.filter (hasL x y)) e w' ∧ Below w.heap.size w w' := by
  obtain ⟨i2, hk, hx0, hx1', hx2'⟩ := info_parts infoLR
  have HL := Lib.hid hL
  have HYC := Lib.hid hy
  have HXC := Lib.hid hx
  have HD := Lib.hid hD
  have HLEN := Lib.hid hlen
  have hent := enters_of Tryd.func83 (by kernel_rfl) rfl
  clear hL hD hlen hx hy
  obtain ⟨p, hp⟩ : ∃ p : List R4 → Bool, (hasL x y) = p := ⟨_, rfl⟩
  rw [hp]
  have HP := Lib.hid hp
  clear hp
  go_enter Tryd.func74, Tryd.ntmps74
  go_wp2_with fail
  go_loopw [5, 10] (fun s5 s10 wr => ∃ (i q : Nat) (a8 : Option Addr) (c8 : Nat) (V' : List Value) (g' : Nat → Nat), i ≤ LL.length ∧ q ≤ i ∧ q ≤ c8 ∧ s5 = .slice a8 q c8 ∧ s10 = .int .i64 (i : Nat) ∧ Hid (Below w.heap.size w wr) ∧ Hid (q = ((LL.take i).filter p).length) ∧ Hid (LsOwn B wr (.slice a8 q c8) ((LL.take i).filter p) V' g') ∧ Hid (∀ b, (Value.slice a8 q c8).ownBlock = some b → w.heap.size ≤ b) ∧ Hid (∀ t, t < q → ∃ j, j < i ∧ g' t = g j)) (fun _ s10 _ => LL.length - (intOf s10).toNat)
  case atStart => exact ⟨0, 0, none, 0, [], _, by omega, by omega, by omega, rfl, rfl, Lib.hid (Below.refl _ _), Lib.hid rfl, Lib.hid (LsOwn.nil _ _), Lib.hid (fun b hb => by simp [Value.ownBlock] at hb), Lib.hid (fun t ht => by omega)⟩
  case round =>
    obtain ⟨i, q, a8, c8, V', g', hil, hqi, hqc, rfl, rfl, HB, HQ, HS, HX, HG⟩ := hrel
    by_cases hlt : i < LL.length
    case neg =>
      obtain rfl : i = LL.length := by omega
      have q1 : ¬ ((LL.length : Nat) : Int) < (LL.length : Int) := by omega
      have hq := HQ.out
      have hs := HS.out
      rw [List.take_of_length_le (Nat.le_refl _)] at hq hs
      have hfin : LLOwn B (LL.filter p) (.returned (.slice a8 q c8)) wr := ⟨a8, c8, V', g', by rw [hq], by omega, by rw [← hq]; exact hs⟩
      have HFIN := Lib.hid hfin
      clear hfin hq hs
      go_wp2_with fail
      go_ret
      exact ⟨HFIN.out, HB.out⟩
    have q1 : ((i : Nat) : Int) < (LL.length : Int) := by omega
    have q0 : (0 : Int) ≤ ((i : Nat) : Int) := by omega
    obtain ⟨l, hl⟩ : ∃ l, LL[i]? = some l := ⟨_, List.getElem?_eq_getElem hlt⟩
    have hll := HLEN.out l (List.mem_of_getElem? hl)
    have hlp := HL.out.ne l (List.mem_of_getElem? hl)
    obtain ⟨c', e1, e2, e3, e4, e5⟩ := (HL.out.below HB.out).each i l hl
    obtain ⟨g0, cap0, hg0⟩ : ∃ g0 cap0, Value.slice a LL.length c = .slice (some ⟨g0, 0, none⟩) LL.length cap0 := by
      rcases HL.out.row.2 with ⟨_, h0⟩ | ⟨g0, cap0, _, h1, _⟩
      · omega
      · exact ⟨g0, cap0, h1⟩
    cases hg0
    have r1 := row_cells (HL.out.below HB.out).row i _ e1
    have hcl := fun w' hx' hy' hD' hR' => atClosure_any bx bY x y (some ⟨g i, 0, none⟩) l c' w' hx' hy' (by omega) e2 hD' hR'
    have HX0 := Lib.hid (keepC HB.out HXC.out)
    have HY0 := Lib.hid (keepC HB.out HYC.out)
    have hst : (LL.take (i + 1)).filter p = (LL.take i).filter p ++ if p l = true then [l] else [] := by
      rw [List.take_add_one, hl, Option.toList_some, List.filter_append]
      congr 1
      cases hpl : p l <;> simp [hpl]
    rw [show hasL x y l = p l by rw [← HP.out]] at hcl
    have HD2 := Lib.hid (HD.out.ext HB.out)
    have HR2 : Hid (RectsIs wr.heap.size wr (some ⟨g i, 0, none⟩) l.length (pA l) (pB l) (pC l) (pD l)) := Lib.hid ((RowR.rects e4).mono (by omega))
    have HSI := Lib.hid e4
    have hgi := e3
    have hgw : g i < w.heap.size := by
      obtain ⟨_, _, _, h3, _⟩ := HL.out.each i l hl
      exact h3.2
    clear e3 e4 e5
    cases hpl : p l with
    | false =>
      rw [hpl] at hcl hst
      rw [if_neg (by simp), List.append_nil] at hst
      have HST := Lib.hid hst
      clear hst
      go_wp2_with (go_at_call 83; refine (hcl _ HX0.out HY0.out HD2.out HR2.out).mono ?_; rintro e w5 ⟨rfl, bw5⟩)
      have HB5 := Lib.hid (Ext.trans HB.out bw5)
      have HS5 := Lib.hid (HS.out.below bw5)
      go_roundw
      case rel => exact ⟨i + 1, q, a8, c8, V', g', by omega, by omega, hqc, rfl, by go_num, HB5, Lib.hid (by rw [HST.out]; exact HQ.out), Lib.hid (by rw [HST.out]; exact HS5.out), HX, Lib.hid (fun t ht => by obtain ⟨j, h1, h2⟩ := HG.out t ht; exact ⟨j, by omega, h2⟩)⟩
      case measure => simp [intOf]; omega
    | true =>
      rw [hpl] at hcl hst
      rw [if_pos rfl] at hst
      have HST := Lib.hid hst
      clear hst
      obtain ⟨LLq, hLLq⟩ : ∃ LLq, (LL.take i).filter p = LLq := ⟨_, rfl⟩
      rw [hLLq] at HST HQ HS
      clear hLLq
      go_upto_region 6 with (go_at_call 83; refine (hcl _ HX0.out HY0.out HD2.out HR2.out).mono ?_; rintro e w5 ⟨rfl, bw5⟩)
      have hs5 := bw5.size
      have HB5 := Lib.hid (Ext.trans HB.out bw5)
      have HL5 := Lib.hid (HS.out.below bw5)
      have HR5 := Lib.hid (HSI.out.below bw5 hgi.2)
      have hrow5 := HL5.out.row
      rw [← HQ.out] at hrow5
      have HRW5 := Lib.hid hrow5
      have hws := HB5.out.size
      clear hrow5 bw5 HS HR2 HSI HB HD2 hcl e1 r1
      go_wp2_with (at_builtin; refine wpList_append_own_at _ rfl _ _ 36 rfl B 26 i2 (.slice none 0 0) 1 24 Tryd.underlying36 hk hx0 hx1' hx2' rfl (by decide) _ _ _ rfl (HRW5.out.alloc _) ⟨w5.heap.size, 0, none⟩ 1 1 [.slice (some ⟨g i, 0, none⟩) l.length c'] rfl rfl ?c1 ?c2 ?c3 ?c4 ?c5 ?_)
      case c1 =>
        intro j u hj
        match j, hj with
        | 0, hj => simp at hj; subst hj; rw [addG]; simp [go_sem]
      case c2 => intro u hu; simp at hu; subst hu; rfl
      case c3 => unfold maxLen; omega
      case c4 => omega
      case c5 => (try simp only [World.size_alloc]); omega
      intro v' wn hown' hgrow _ hat
      have hq := HQ.out
      have bA : Below w5.heap.size w5 (w5.alloc (.cells #[.slice (some ⟨g i, 0, none⟩) l.length c'] 26)) := (Below.refl _ _).alloc (Nat.le_refl _) _
      have hls := LsOwn.snoc (x := g i) (c := c') (v' := v') (w' := wn) (HL5.out.below bA) hlp e2 ⟨hgi.1, by simp; omega⟩ (HR5.out.below bA (by omega)) (fun e => by have := HX.out _ e; omega) (fun t ht e => by
        obtain ⟨j, h1, h2⟩ := HG.out t (by omega)
        exact HL.out.inj j i (by omega) hlt (by omega) (h2.symm.trans e)) hgrow (by rw [← hq]; exact hown') (by rw [World.size_alloc]; exact hat)
      rw [← HST.out] at hls
      have hx' : ∀ b, v'.ownBlock = some b → w.heap.size ≤ b := fun b hb => by
        rcases hat with hat | hat
        · rw [hat] at hb; exact HX.out b hb
        · rw [hat] at hb
          have := Option.some.inj hb
          (try simp at this); omega
      have hql : q + 1 = ((LL.take (i + 1)).filter p).length := by rw [HST.out, List.length_append, List.length_singleton, hq]
      obtain ⟨a9, k9, rfl, hk9⟩ := own_sl hown'
      have HL6 := Lib.hid hls
      have HX6 := Lib.hid hx'
      have HQ6 := Lib.hid hql
      have HB6 := Lib.hid (show Below w.heap.size w wn from Below.grown (Below.trans HB5.out (bA.mono (by omega))) hgrow (by simp; omega) (fun t ht => HX.out t ht))
      have HG6 : Hid (∀ t, t < q + 1 → ∃ j, j < i + 1 ∧ (if t = LLq.length then g i else g' t) = g j) := Lib.hid (fun t ht => by
        by_cases e : t = LLq.length
        · rw [if_pos e]; exact ⟨i, by omega, rfl⟩
        · rw [if_neg e]
          obtain ⟨j, h1, h2⟩ := HG.out t (by omega)
          exact ⟨j, by omega, h2⟩)
      clear hls hx' hql hq hown' hgrow hat bA HL5 HB5 HRW5
      go_wp2_with fail
      go_roundw
      case rel => exact ⟨i + 1, q + 1, a9, k9, _, _, by omega, by omega, hk9, rfl, by go_num, HB6, HQ6, HL6, HX6, HG6⟩
      case measure => simp [intOf]; omega
set_option maxHeartbeats 4000000 in
theorem implComponentAt_any (m : Option Addr) (n cap : Nat) (P Q R S : Nat → Int) (x y : Int) (w : World) (hn : n ≤ 1048576) (hcap : n ≤ cap) (hD : EnvW w) (hR : RectsIs w.heap.size w m n P Q R S) :
    Calls Tryd.prog 34 #[.slice m n cap, .int .i64 x, .int .i64 y] w fun e w' => LOwn w.heap.size (caL P Q R S n x y) e w' ∧ Below w.heap.size w w' := by
  have HD := Lib.hid hD
  have HR := Lib.hid hR
  rw [← ca_eq]
  have hcs := fun w' hD' hR' => implComponents_any m n cap P Q R S w' hn hcap hD' hR'
  have hlen := csL_len P Q R S n
  have hcan := csL_can P Q R S n
  have htot := cs_tot32 P Q R S n
  obtain ⟨LL, hLL⟩ : ∃ LL, csL P Q R S n = LL := ⟨_, rfl⟩
  rw [hLL] at hcs hlen hcan htot ⊢
  have hsel := fun bx bY B a c V g w' hx' hy' hB' hD' hL' => selAt_any bx bY x y B a LL c V g w' hx' hy' hB' hD' hlen (fun l hl => hcan.len hl) hL'
  have hfl : (LL.filter (hasL x y)).length ≤ 6400 := Nat.le_trans (List.length_filter_le _ _) hlen
  have hjp := fun B a c V g w' hB' hD' hL' => joinParts_any B a (LL.filter (hasL x y)) c V g w' hB' hfl (filt_can hcan _) (filt_tot htot _) hD' hL'
  obtain ⟨FF, hFF⟩ : ∃ FF, (LL.filter (hasL x y)) = FF := ⟨_, rfl⟩
  rw [hFF] at hsel hjp ⊢
  obtain ⟨res, hres⟩ : ∃ res, canonL (anyF FF) = res := ⟨_, rfl⟩
  rw [hres] at hjp ⊢
  obtain ⟨wS, hwS⟩ : ∃ wS, wS = (w.alloc (.cells #[.int .i64 x] 2)).alloc (.cells #[.int .i64 y] 2) := ⟨_, rfl⟩
  have bS : Below w.heap.size w wS := by rw [hwS]; (repeat (first | (with_reducible exact Below.refl _ _) | (with_reducible refine Ext.drewN ?_ _) | (with_reducible refine Below.drew ?_) | (with_reducible refine Ext.alloc ?_ _) | (with_reducible refine Ext.setCell ?_ (by simp; try omega) _) | (with_reducible refine Ext.trans ?_ (by assumption)) | (with_reducible assumption) | exact Below.refl _ _))
  have cS : wS.cell? ⟨w.heap.size, 0, none⟩ = some (.int .i64 x) := by rw [hwS]; simp [go_sem]
  have dS : wS.cell? ⟨w.heap.size + 1, 0, none⟩ = some (.int .i64 y) := by rw [hwS]; simp [go_sem]
  have hmf : ∀ (fn : Fn) (first cap : Array Value) (w : World), (Instr.makeFunc fn first cap).run Tryd.prog w = .ok (.func fn first cap) w := fun _ _ _ _ => rfl
  clear hres hLL hFF hD hR hcan htot
  go_enter Tryd.func34, Tryd.ntmps34
  go_wp2_with fail
  rw [← hwS]
  clear hwS
  refine (hcs _ (HD.out.ext bS) (HR.out.ext bS)).mono ?_
  rintro e w1 ⟨⟨a1, c1, V1, g1, rfl, k1, o1⟩, bw1⟩
  have O1 := Lib.hid o1
  have B1 := Ext.trans bS bw1
  have c1' := keepC bw1 cS
  have d1' := keepC bw1 dS
  have hs1 := bw1.size
  have hsS := bS.size
  clear o1 hcs cS dS bw1
  go_wp2_with (first | (go_at_call 74; refine (hsel w.heap.size (w.heap.size + 1) wS.heap.size _ _ _ _ _ c1' d1' hs1 (HD.out.ext B1) O1.out).mono ?_; rintro e w2 ⟨⟨a2, c2, V2, g2, rfl, k2, o2⟩, bw2⟩; have O2 := Lib.hid o2; clear o2) | (go_at_call 82; refine (hjp wS.heap.size _ _ _ _ _ (by have := bw2.size; omega) (HD.out.ext (Ext.trans B1 bw2)) O2.out).mono ?_; rintro e w3 ⟨⟨a3, c3, rfl, k3, o3⟩, bw3⟩; have O3 := Lib.hid o3; clear o3))
  go_ret
  exact ⟨⟨a3, c3, rfl, O3.out.mono (Ext.trans B1 bw2).size⟩, Ext.trans (Ext.trans B1 bw2) bw3⟩
end Go.Proofs.YtepfnnhmplaocaaDoor
