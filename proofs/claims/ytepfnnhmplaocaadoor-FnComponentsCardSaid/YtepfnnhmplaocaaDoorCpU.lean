/- The program's Holes: the parts that do not reach the border. Conditions: the rectangles' cells are in memory; the tables are in memory. -/
import Derived.Test.YtepfnnhmplaocaaDoorCpT
import Derived.Test.YtepfnnhmplaocaaDoorCpP
import Derived.Test.YtepfnnhmplaocaaDoorCpQ
import Derived.Test.YtepfnnhmplaocaaDoorQP
import Derived.Test.YtepfnnhmplaocaaDoorQN
import Derived.Test.YtepfnnhmplaocaaDoorQT
import Derived.Laws.EntriesVeiled
namespace Go.Proofs.YtepfnnhmplaocaaDoor
open Go.RowKit
set_option linter.unusedVariables false
set_option linter.unusedSimpArgs false
attribute [local go_sem ↓] Go.wp_at_zero Go.wp_at_succ

theorem cmp_cov (P Q R S : Nat → Int) (n : Nat) {k : Nat} (hk : k < 6400) (hok : okR P Q R S n = true) : covF (pA (cmL P Q R S n)) (pB (cmL P Q R S n)) (pC (cmL P Q R S n)) (pD (cmL P Q R S n)) (cmL P Q R S n).length k = notF (covF P Q R S n) k := by
  unfold cmL notF
  rw [if_pos hok, cov_canonL_all _ hk]
  unfold opF tt
  cases covF P Q R S n k <;> decide
theorem no_ok (P Q R S : Nat → Int) : okR P Q R S 0 = true := by
  have h0 : canonL (fun _ => false) = [] := List.length_eq_zero_iff.1 ((canonL_none_iff _).2 fun _ _ => rfl)
  rw [okR_iff]
  refine ⟨fun i hi => by omega, ?_⟩
  have e : covF P Q R S 0 = fun _ => false := rfl
  rw [e, h0]; rfl
theorem startsTo_none (wide : Bool) : ∀ n, startsTo (fun _ => false) wide n = []
  | 0 => rfl
  | n + 1 => by rw [startsTo, startsTo_none wide n]; simp
theorem hol_filter (f : Nat → Bool) : (cmpL (notF f) true).filter (fun l => !rchB l) = holL f := by
  unfold cmpL holL
  rw [List.filter_map]
  congr 1
  apply List.filter_congr
  intro s _
  simp only [Function.comp]
  rw [rch_inn]
theorem hs_filter (P Q R S : Nat → Int) (n : Nat) : (cmpL (covF (pA (cmL P Q R S n)) (pB (cmL P Q R S n)) (pC (cmL P Q R S n)) (pD (cmL P Q R S n)) (cmL P Q R S n).length) true).filter (fun l => !rchB l) = hsL P Q R S n := by
  cases hok : okR P Q R S n with
  | true =>
    unfold hsL
    rw [if_pos hok, ← hol_filter, cmpL_congr fun k hk => (cmp_cov P Q R S n hk hok)]
  | false =>
    have e : cmL P Q R S n = [] := by unfold cmL; rw [if_neg (by simp [hok])]
    unfold hsL
    have e2 : covF (pA []) (pB []) (pC []) (pD []) ([] : List R4).length = fun _ => false := rfl
    rw [if_neg (by simp [hok]), e, e2]
    unfold cmpL
    rw [startsTo_none]; rfl
theorem cm_ok (P Q R S : Nat → Int) (n : Nat) : okR (pA (cmL P Q R S n)) (pB (cmL P Q R S n)) (pC (cmL P Q R S n)) (pD (cmL P Q R S n)) (cmL P Q R S n).length = true := by
  cases hok : okR P Q R S n with
  | true =>
    unfold cmL
    rw [if_pos hok]
    exact okR_canonL _
  | false =>
    have e : cmL P Q R S n = [] := by unfold cmL; rw [if_neg (by simp [hok])]
    rw [e]; exact no_ok _ _ _ _
theorem holesClosure_any (a : Option Addr) (l : List R4) (c : Nat) (w : World) (hl : l.length ≤ 1048576) (hD : EnvW w) (hR : RectsIs w.heap.size w a l.length (pA l) (pB l) (pC l) (pD l)) :
    Calls Tryd.prog 77 #[.slice a l.length c] w fun e w' => e = .returned (.bool (!rchB l)) ∧ Below w.heap.size w w' := by
  have h := reaches_any a l c w hl hD hR
  obtain ⟨b, hb⟩ : ∃ b, rchB l = b := ⟨_, rfl⟩
  rw [hb] at h ⊢
  clear hb hD hR
  go_enter Tryd.func77, Tryd.ntmps77
  go_wp2_with (go_at_call 78; refine h.mono ?_; rintro e w1 ⟨rfl, bw1⟩)
  go_ret
  exact ⟨rfl, bw1⟩
/-- A call that hands back a list of lists above B, its outer row above C. -/
def LLSel (B C : Nat) (LL : List (List R4)) (e : Ending) (w : World) : Prop := ∃ (a : Option Addr) (c : Nat) (V : List Value) (g : Nat → Nat), e = .returned (.slice a LL.length c) ∧ LL.length ≤ c ∧ LsOwn B w (.slice a LL.length c) LL V g
set_option maxHeartbeats 8000000 in
set_option maxRecDepth 100000 in
theorem selHoles_any (B : Nat) (a : Option Addr) (LL : List (List R4)) (c : Nat) (V : List Value) (g : Nat → Nat) (w : World) (hB : B ≤ w.heap.size) (hD : EnvW w) (hl : LL.length ≤ 6400) (hlen : ∀ l, l ∈ LL → l.length ≤ 3280) (hL : LsOwn B w (.slice a LL.length c) LL V g) :
    Calls Tryd.prog 74 #[.slice a LL.length c, .func (.func 77) #[] #[]] w fun e w' => LLOwn B (LL.filter fun l => !rchB l) e w' ∧ Below w.heap.size w w' := by
  obtain ⟨i2, hk, hx0, hx1', hx2'⟩ := info_parts infoLR
  have HL := Lib.hid hL
  have HD := Lib.hid hD
  have HLEN := Lib.hid hlen
  have hent := enters_of Tryd.func77 (by kernel_rfl) rfl
  clear hL hD hlen
  obtain ⟨p, hp⟩ : ∃ p : List R4 → Bool, (fun l => !rchB l) = p := ⟨_, rfl⟩
  rw [hp]
  have HP := Lib.hid hp
  clear hp
  go_enter Tryd.func74, Tryd.ntmps74
  go_wp2_with fail
  go_loopw [5, 10] (fun s5 s10 wr => ∃ (i q : Nat) (a8 : Option Addr) (c8 : Nat) (V' : List Value) (g' : Nat → Nat), i ≤ LL.length ∧ q ≤ i ∧ q ≤ c8 ∧ s5 = .slice a8 q c8 ∧ s10 = .int .i64 (i : Nat) ∧ Hid (Below w.heap.size w wr) ∧ Hid (q = ((LL.take i).filter p).length) ∧ Hid (LsOwn B wr (.slice a8 q c8) ((LL.take i).filter p) V' g') ∧ Hid (∀ b, (Value.slice a8 q c8).ownBlock = some b → w.heap.size ≤ b) ∧ Hid (∀ t, t < q → ∃ j, j < i ∧ g' t = g j)) (fun _ s10 _ => LL.length - (intOf s10).toNat)
  case atStart => exact ⟨0, 0, none, 0, [], _, by omega, by omega, by omega, rfl, rfl, Lib.hid (Below.refl _ _), Lib.hid rfl, Lib.hid (LsOwn.nil _ _), Lib.hid (fun b hb => by simp [Value.ownBlock] at hb), Lib.hid (fun t ht => by omega)⟩
  case round =>
    obtain ⟨i, q, a8, c8, V', g', hil, hqi, hqc, rfl, rfl, HB, HQ, HS, HX, HG⟩ := hrel
    by_cases hlt : i < LL.length
    case neg =>
      obtain rfl : i = LL.length := by omega
      have q1 : ¬ ((LL.length : Nat) : Int) < (LL.length : Int) := by omega
      have hq := HQ.out
      have hs := HS.out
      rw [List.take_of_length_le (Nat.le_refl _)] at hq hs
      have hfin : LLOwn B (LL.filter p) (.returned (.slice a8 q c8)) wr := ⟨a8, c8, V', g', by rw [hq], by omega, by rw [← hq]; exact hs⟩
      have HFIN := Lib.hid hfin
      clear hfin hq hs
      go_wp2_with fail
      go_ret
      exact ⟨HFIN.out, HB.out⟩
    have q1 : ((i : Nat) : Int) < (LL.length : Int) := by omega
    have q0 : (0 : Int) ≤ ((i : Nat) : Int) := by omega
    obtain ⟨l, hl⟩ : ∃ l, LL[i]? = some l := ⟨_, List.getElem?_eq_getElem hlt⟩
    have hll := HLEN.out l (List.mem_of_getElem? hl)
    have hlp := HL.out.ne l (List.mem_of_getElem? hl)
    obtain ⟨c', e1, e2, e3, e4, e5⟩ := (HL.out.below HB.out).each i l hl
    obtain ⟨g0, cap0, hg0⟩ : ∃ g0 cap0, Value.slice a LL.length c = .slice (some ⟨g0, 0, none⟩) LL.length cap0 := by
      rcases HL.out.row.2 with ⟨_, h0⟩ | ⟨g0, cap0, _, h1, _⟩
      · omega
      · exact ⟨g0, cap0, h1⟩
    cases hg0
    have r1 := row_cells (HL.out.below HB.out).row i _ e1
    have hcl := fun w' hD' hR' => holesClosure_any (some ⟨g i, 0, none⟩) l c' w' (by omega) hD' hR'
    have hst : (LL.take (i + 1)).filter p = (LL.take i).filter p ++ if p l = true then [l] else [] := by
      rw [List.take_add_one, hl, Option.toList_some, List.filter_append]
      congr 1
      cases hpl : p l <;> simp [hpl]
    rw [show (!rchB l) = p l by rw [← HP.out]] at hcl
    have HD2 := Lib.hid (HD.out.ext HB.out)
    have HR2 : Hid (RectsIs wr.heap.size wr (some ⟨g i, 0, none⟩) l.length (pA l) (pB l) (pC l) (pD l)) := Lib.hid ((RowR.rects e4).mono (by omega))
    have HSI := Lib.hid e4
    have hgi := e3
    have hgw : g i < w.heap.size := by
      obtain ⟨_, _, _, h3, _⟩ := HL.out.each i l hl
      exact h3.2
    clear e3 e4 e5
    cases hpl : p l with
    | false =>
      rw [hpl] at hcl hst
      rw [if_neg (by simp), List.append_nil] at hst
      have HST := Lib.hid hst
      clear hst
      go_wp2_with (go_at_call 77; refine (hcl _ HD2.out HR2.out).mono ?_; rintro e w5 ⟨rfl, bw5⟩)
      have HB5 := Lib.hid (Ext.trans HB.out bw5)
      have HS5 := Lib.hid (HS.out.below bw5)
      go_roundw
      case rel => exact ⟨i + 1, q, a8, c8, V', g', by omega, by omega, hqc, rfl, by go_num, HB5, Lib.hid (by rw [HST.out]; exact HQ.out), Lib.hid (by rw [HST.out]; exact HS5.out), HX, Lib.hid (fun t ht => by obtain ⟨j, h1, h2⟩ := HG.out t ht; exact ⟨j, by omega, h2⟩)⟩
      case measure => simp [intOf]; omega
    | true =>
      rw [hpl] at hcl hst
      rw [if_pos rfl] at hst
      have HST := Lib.hid hst
      clear hst
      obtain ⟨LLq, hLLq⟩ : ∃ LLq, (LL.take i).filter p = LLq := ⟨_, rfl⟩
      rw [hLLq] at HST HQ HS
      clear hLLq
      go_upto_region 6 with (go_at_call 77; refine (hcl _ HD2.out HR2.out).mono ?_; rintro e w5 ⟨rfl, bw5⟩)
      have hs5 := bw5.size
      have HB5 := Lib.hid (Ext.trans HB.out bw5)
      have HL5 := Lib.hid (HS.out.below bw5)
      have HR5 := Lib.hid (HSI.out.below bw5 hgi.2)
      have hrow5 := HL5.out.row
      rw [← HQ.out] at hrow5
      have HRW5 := Lib.hid hrow5
      have hws := HB5.out.size
      clear hrow5 bw5 HS HR2 HSI HB HD2 hcl e1 r1
      go_wp2_with (at_builtin; refine wpList_append_own_at _ rfl _ _ 36 rfl B 26 i2 (.slice none 0 0) 1 24 Tryd.underlying36 hk hx0 hx1' hx2' rfl (by decide) _ _ _ rfl (HRW5.out.alloc _) ⟨w5.heap.size, 0, none⟩ 1 1 [.slice (some ⟨g i, 0, none⟩) l.length c'] rfl rfl ?c1 ?c2 ?c3 ?c4 ?c5 ?_)
      case c1 =>
        intro j u hj
        match j, hj with
        | 0, hj => simp at hj; subst hj; rw [addG]; simp [go_sem]
      case c2 => intro u hu; simp at hu; subst hu; rfl
      case c3 => unfold maxLen; omega
      case c4 => omega
      case c5 => (try simp only [World.size_alloc]); omega
      intro v' wn hown' hgrow _ hat
      have hq := HQ.out
      have bA : Below w5.heap.size w5 (w5.alloc (.cells #[.slice (some ⟨g i, 0, none⟩) l.length c'] 26)) := (Below.refl _ _).alloc (Nat.le_refl _) _
      have hls := LsOwn.snoc (x := g i) (c := c') (v' := v') (w' := wn) (HL5.out.below bA) hlp e2 ⟨hgi.1, by simp; omega⟩ (HR5.out.below bA (by omega)) (fun e => by have := HX.out _ e; omega) (fun t ht e => by
        obtain ⟨j, h1, h2⟩ := HG.out t (by omega)
        exact HL.out.inj j i (by omega) hlt (by omega) (h2.symm.trans e)) hgrow (by rw [← hq]; exact hown') (by rw [World.size_alloc]; exact hat)
      rw [← HST.out] at hls
      have hx' : ∀ b, v'.ownBlock = some b → w.heap.size ≤ b := fun b hb => by
        rcases hat with hat | hat
        · rw [hat] at hb; exact HX.out b hb
        · rw [hat] at hb
          have := Option.some.inj hb
          (try simp at this); omega
      have hql : q + 1 = ((LL.take (i + 1)).filter p).length := by rw [HST.out, List.length_append, List.length_singleton, hq]
      obtain ⟨a9, k9, rfl, hk9⟩ := own_sl hown'
      have HL6 := Lib.hid hls
      have HX6 := Lib.hid hx'
      have HQ6 := Lib.hid hql
      have HB6 := Lib.hid (show Below w.heap.size w wn from Below.grown (Below.trans HB5.out (bA.mono (by omega))) hgrow (by simp; omega) (fun t ht => HX.out t ht))
      have HG6 : Hid (∀ t, t < q + 1 → ∃ j, j < i + 1 ∧ (if t = LLq.length then g i else g' t) = g j) := Lib.hid (fun t ht => by
        by_cases e : t = LLq.length
        · rw [if_pos e]; exact ⟨i, by omega, rfl⟩
        · rw [if_neg e]
          obtain ⟨j, h1, h2⟩ := HG.out t (by omega)
          exact ⟨j, by omega, h2⟩)
      clear hls hx' hql hq hown' hgrow hat bA HL5 HB5 HRW5
      go_wp2_with fail
      go_roundw
      case rel => exact ⟨i + 1, q + 1, a9, k9, _, _, by omega, by omega, hk9, rfl, by go_num, HB6, HQ6, HL6, HX6, HG6⟩
      case measure => simp [intOf]; omega
set_option maxHeartbeats 4000000 in
theorem implHoles_any (m : Option Addr) (n cap : Nat) (P Q R S : Nat → Int) (w : World) (hn : n ≤ 1048576) (hcap : n ≤ cap) (hD : EnvW w) (hR : RectsIs w.heap.size w m n P Q R S) :
    Calls Tryd.prog 26 #[.slice m n cap] w fun e w' => LLOwn w.heap.size (hsL P Q R S n) e w' ∧ Below w.heap.size w w' := by
  have HD := Lib.hid hD
  have hc := implComplementC_any merge4_any m n cap P Q R S w hn hcap hD hR
  have hcl := cmL_len P Q R S n
  have hok := cm_ok P Q R S n
  have hf := hs_filter P Q R S n
  obtain ⟨l, hl⟩ : ∃ l, cmL P Q R S n = l := ⟨_, rfl⟩
  rw [hl] at hc hcl hok hf
  have hl32 := okR_len hok
  have hp := fun a c w' hD' hR' => partsOf_any a l.length c (pA l) (pB l) (pC l) (pD l) true w' hl32 hD' hR' hok
  have hlen : ∀ k, k ∈ cmpL (covF (pA l) (pB l) (pC l) (pD l) l.length) true → k.length ≤ 3280 := fun k hk => by
    unfold cmpL at hk
    obtain ⟨s, _, rfl⟩ := List.mem_map.1 hk
    exact canonL_len _
  have hll : (cmpL (covF (pA l) (pB l) (pC l) (pD l) l.length) true).length ≤ 6400 := by
    unfold cmpL
    rw [List.length_map]; exact startsTo_len _ true 6400
  rw [show colW true = 0 from rfl] at hp
  obtain ⟨LL, hLL⟩ : ∃ LL, cmpL (covF (pA l) (pB l) (pC l) (pD l) l.length) true = LL := ⟨_, rfl⟩
  rw [hLL] at hp hlen hf hll
  rw [← hf]
  have hs := fun B a c V g w' hB' hD' hL' => selHoles_any B a LL c V g w' hB' hD' hll hlen hL'
  obtain ⟨FF, hFF⟩ : ∃ FF, LL.filter (fun l => !rchB l) = FF := ⟨_, rfl⟩
  rw [hFF] at hs ⊢
  have hmf : ∀ (fn : Fn) (first cap : Array Value) (w : World), (Instr.makeFunc fn first cap).run Tryd.prog w = .ok (.func fn first cap) w := fun _ _ _ _ => rfl
  clear hLL hFF hl hf hD hR hok
  go_enter Tryd.func26, Tryd.ntmps26
  go_wp2_with (first | (go_at_call 76; refine hc.mono ?_; rintro e w1 ⟨⟨a1, c1, rfl, k1, o1⟩, bw1⟩; have O1 := Lib.hid o1; clear o1) | (go_at_call 75; refine (hp _ _ _ (HD.out.ext bw1) O1.out.rects).mono ?_; rintro e w2 ⟨⟨a2, c2, V2, g2, rfl, k2, o2⟩, bw2⟩; have O2 := Lib.hid o2; clear o2) | (go_at_call 74; refine (hs w.heap.size _ _ _ _ _ (by have := bw1.size; have := bw2.size; omega) (HD.out.ext (Ext.trans bw1 bw2)) (O2.out.mono bw1.size)).mono ?_; rintro e w3 ⟨⟨a3, c3, V3, g3, rfl, k3, o3⟩, bw3⟩; have O3 := Lib.hid o3; clear o3))
  go_ret
  exact ⟨⟨a3, c3, V3, g3, rfl, k3, O3.out⟩, Ext.trans (Ext.trans bw1 bw2) bw3⟩
end Go.Proofs.YtepfnnhmplaocaaDoor
