/- The program's SelectOverlapping. Conditions: the rectangles' cells are in memory; the tables are in memory. -/
import Derived.Test.YtepfnnhmplaocaaDoorCpX
import Derived.Test.YtepfnnhmplaocaaDoorCpL
import Derived.Test.YtepfnnhmplaocaaDoorQK
import Derived.Test.YtepfnnhmplaocaaDoorQP
import Derived.Laws.EntriesVeiled
namespace Go.Proofs.YtepfnnhmplaocaaDoor
open Go.RowKit Go.Shelf
set_option linter.unusedVariables false
set_option linter.unusedSimpArgs false
attribute [local go_sem ↓] Go.wp_at_zero Go.wp_at_succ
attribute [local go_sem] Oper.semAt_some run_store_fn

/-- The words that the sweep of a list over a set makes. -/
def swW (G : Nat → Nat) (l : List R4) : Nat → Nat := swG (fun a c => a &&& c) (swH false G) G (rowsQ l.length (pA l) (pB l) (pC l) (pD l) l.length)
/-- Has the list a cell of the set? -/
def ovlB (G : Nat → Nat) (l : List R4) : Bool := !(eqG (swW G l) fun _ => 0)
theorem regG_rows (A B C D : Nat → Int) (k : Nat) : RowsOK (if okR A B C D k = true then covF A B C D k else fun _ => false) (regG A B C D k) := by
  cases hok : okR A B C D k with
  | true => rw [if_pos rfl]; exact regG_ok hok
  | false =>
    rw [if_neg (by simp)]
    have e : regG A B C D k = fun _ => 0 := by unfold regG; rw [if_neg (by simp [hok])]
    rw [e]; exact rows_none
theorem ovlB_canon {F : Nat → Bool} {G : Nat → Nat} (hf : RowsOK F G) (g : Nat → Bool) : ovlB G (canonL g) = true ↔ ∃ k, k < 6400 ∧ F k = true ∧ g k = true := by
  have hs := sweep_rows combAnd hf (okR_canonL g)
  have hz := hasB_zero hs
  unfold ovlB swW
  rw [Bool.not_eq_true', ← Bool.not_eq_true, hz]
  have key : ∀ k, k < 6400 → (tt 8 (F k) (covF (pA (canonL g)) (pB (canonL g)) (pC (canonL g)) (pD (canonL g)) (canonL g).length k) = true ↔ F k = true ∧ g k = true) := fun k hk => by
    rw [cov_canonL_all g hk]
    cases F k <;> cases g k <;> decide
  constructor
  · intro h
    refine Classical.byContradiction fun hn => h fun x y => ?_
    cases hh : hasB (fun j => tt 8 (F j) (covF (pA (canonL g)) (pB (canonL g)) (pC (canonL g)) (pD (canonL g)) (canonL g).length j)) x y with
    | false => rfl
    | true =>
      have hch := hasB_chip hh
      rw [hasB_in hch] at hh
      have hk : cIx x y < 6400 := by unfold cIx; omega
      exact absurd ⟨_, hk, (key _ hk).1 hh⟩ hn
  · rintro ⟨k, hk, h⟩ hn
    obtain ⟨c1, c2, c3⟩ := cIx_cN hk
    have := hn (cxN k) (cyN k)
    rw [hasB_in ⟨c2, c3⟩, c1, (key k hk).2 h] at this
    cases this
theorem so_eq (P Q R S : Nat → Int) (n : Nat) (A B C D : Nat → Int) (k : Nat) : canonL (anyF ((csL P Q R S n).filter (ovlB (regG A B C D k)))) = soL P Q R S n A B C D k := by
  unfold csL soL
  have hf := regG_rows A B C D k
  cases hok : okR P Q R S n with
  | false => rw [if_neg (by simp), if_neg (by simp), List.filter_nil]; exact canon_nil
  | true =>
    rw [if_pos rfl, Bool.true_and]
    cases hok' : okR A B C D k with
    | false =>
      rw [hok', if_neg (by simp)] at hf
      rw [if_neg (by simp)]
      have e : (cmpL (covF P Q R S n) false).filter (ovlB (regG A B C D k)) = [] := by
        rw [List.filter_eq_nil_iff]
        intro l hl
        obtain ⟨g, rfl⟩ := cmpL_can _ _ l hl
        rw [ovlB_canon hf]
        rintro ⟨_, _, h, _⟩
        cases h
      rw [e]; exact canon_nil
    | true =>
      rw [hok', if_pos rfl] at hf
      rw [if_pos rfl]
      congr 2
      apply List.filter_congr
      intro l hl
      obtain ⟨g, rfl⟩ := cmpL_can _ _ l hl
      rw [Bool.eq_iff_iff, ovlB_canon hf, decide_eq_true_eq]
      constructor
      · rintro ⟨j, hj, h1, h2⟩
        refine Nat.pos_of_ne_zero fun h0 => ?_
        have := (canonL_none_iff _).1 h0 j hj
        unfold opF at this
        rw [cov_canonL_all g hj, h1, h2] at this
        revert this; decide
      · intro h
        refine Classical.byContradiction fun hn => ?_
        have : (canonL (opF 8 (pA (canonL g)) (pB (canonL g)) (pC (canonL g)) (pD (canonL g)) (canonL g).length A B C D k)).length = 0 := (canonL_none_iff _).2 fun j hj => by
          unfold opF
          rw [cov_canonL_all g hj]
          cases h1 : covF A B C D k j <;> cases h2 : g j <;> first | rfl | exact absurd ⟨j, hj, h1, h2⟩ hn
        omega
theorem so_len (P Q R S : Nat → Int) (n : Nat) (A B C D : Nat → Int) (k : Nat) : (soL P Q R S n A B C D k).length ≤ 3280 := by
  unfold soL; split
  · exact canonL_len _
  · simp
set_option maxRecDepth 100000 in
set_option maxHeartbeats 4000000 in
theorem ovClosure_any (bc bo : Nat) (G : Nat → Nat) (a : Option Addr) (l : List R4) (c : Nat) (w : World) (h0 : w.cell? ⟨bc, 0, none⟩ = some (fnV 105)) (h1 : w.cell? ⟨bc, 1, none⟩ = some (.bool false)) (hG : RowsAt w bo G) (hGw : ∀ j, W64 (G j)) (hl : l.length ≤ 1048576) (hc : l.length ≤ c) (hcan : ∃ g, l = canonL g) (hR : RectsIs w.heap.size w a l.length (pA l) (pB l) (pC l) (pD l)) :
    Calls Tryd.prog 86 #[.slice a l.length c, .pointer (some ⟨bc, 0, none⟩), .pointer (some ⟨bo, 0, none⟩)] w fun e w' => e = .returned (.bool (ovlB G l)) ∧ Below w.heap.size w w' := by
  have hz := zero59
  have hv : ∀ i, i < l.length → rvB (pA l i) (pB l i) (pC l i) (pD l i) = true := by obtain ⟨g, rfl⟩ := hcan; exact canonL_valid_at g
  have hs := sweep_any 105 false (fun a c => a &&& c) combF_common bo G a l.length c (pA l) (pB l) (pC l) (pD l) w hl hc hR hv hG hGw
  have hsw : swG (fun a c => a &&& c) (swH false G) G (rowsQ l.length (pA l) (pB l) (pC l) (pD l) l.length) = swW G l := rfl
  rw [hsw] at hs
  obtain ⟨b, hb⟩ : ∃ b, ovlB G l = b := ⟨_, rfl⟩
  have hb' : (!(eqG (swW G l) fun _ => 0)) = b := hb
  rw [hb]
  have hq := fun w => eqRows (swW G l) (fun _ => 0) w
  obtain ⟨G1, hG1⟩ : ∃ G1, swW G l = G1 := ⟨_, rfl⟩
  rw [hG1] at hs hb' hq
  have HB := Lib.hid hb'
  have hsz := wArr_size G1
  clear hb hb' hG1 hsw hR hv hG hcan
  go_enter Tryd.func86, Tryd.ntmps86
  go_wp2_with (go_at_call 87; refine hs.mono ?_; rintro e w1 ⟨rfl, bw1⟩)
  go_ret
  exact ⟨by rw [← HB.out]; rfl, bw1⟩
set_option maxHeartbeats 8000000 in
set_option maxRecDepth 100000 in
theorem selOv_any (bc bo : Nat) (G : Nat → Nat) (B : Nat) (a : Option Addr) (LL : List (List R4)) (c : Nat) (V : List Value) (g : Nat → Nat) (w : World) (h0 : w.cell? ⟨bc, 0, none⟩ = some (fnV 105)) (h1 : w.cell? ⟨bc, 1, none⟩ = some (.bool false)) (hG : RowsAt w bo G) (hGw : ∀ j, W64 (G j)) (hcan : allCan LL) (hB : B ≤ w.heap.size) (hD : EnvW w) (hl : LL.length ≤ 6400) (hlen : ∀ l, l ∈ LL → l.length ≤ 3280) (hL : LsOwn B w (.slice a LL.length c) LL V g) :
    Calls Tryd.prog 74 #[.slice a LL.length c, .func (.func 86) #[] #[.pointer (some ⟨bc, 0, none⟩), .pointer (some ⟨bo, 0, none⟩)]] w fun e w' => LLOwn B (LL.filter (ovlB G)) e w' ∧ Below w.heap.size w w' := by
  obtain ⟨i2, hk, hx0, hx1', hx2'⟩ := info_parts infoLR
  have HL := Lib.hid hL
  have HC := Lib.hid hcan
  have HGW := Lib.hid hGw
  have HXC := Lib.hid h0
  have HYC := Lib.hid h1
  have HZC := Lib.hid hG
  have HD := Lib.hid hD
  have HLEN := Lib.hid hlen
  have hent := enters_of Tryd.func86 (by kernel_rfl) rfl
  clear hL hD hlen h0 h1 hG hGw hcan
  obtain ⟨p, hp⟩ : ∃ p : List R4 → Bool, (ovlB G) = p := ⟨_, rfl⟩
  rw [hp]
  have HP := Lib.hid hp
  clear hp
  go_enter Tryd.func74, Tryd.ntmps74
  go_wp2_with fail
  go_loopw [5, 10] (fun s5 s10 wr => ∃ (i q : Nat) (a8 : Option Addr) (c8 : Nat) (V' : List Value) (g' : Nat → Nat), i ≤ LL.length ∧ q ≤ i ∧ q ≤ c8 ∧ s5 = .slice a8 q c8 ∧ s10 = .int .i64 (i : Nat) ∧ Hid (Below w.heap.size w wr) ∧ Hid (q = ((LL.take i).filter p).length) ∧ Hid (LsOwn B wr (.slice a8 q c8) ((LL.take i).filter p) V' g') ∧ Hid (∀ b, (Value.slice a8 q c8).ownBlock = some b → w.heap.size ≤ b) ∧ Hid (∀ t, t < q → ∃ j, j < i ∧ g' t = g j)) (fun _ s10 _ => LL.length - (intOf s10).toNat)
  case atStart => exact ⟨0, 0, none, 0, [], _, by omega, by omega, by omega, rfl, rfl, Lib.hid (Below.refl _ _), Lib.hid rfl, Lib.hid (LsOwn.nil _ _), Lib.hid (fun b hb => by simp [Value.ownBlock] at hb), Lib.hid (fun t ht => by omega)⟩
  case round =>
    obtain ⟨i, q, a8, c8, V', g', hil, hqi, hqc, rfl, rfl, HB, HQ, HS, HX, HG⟩ := hrel
    by_cases hlt : i < LL.length
    case neg =>
      obtain rfl : i = LL.length := by omega
      have q1 : ¬ ((LL.length : Nat) : Int) < (LL.length : Int) := by omega
      have hq := HQ.out
      have hs := HS.out
      rw [List.take_of_length_le (Nat.le_refl _)] at hq hs
      have hfin : LLOwn B (LL.filter p) (.returned (.slice a8 q c8)) wr := ⟨a8, c8, V', g', by rw [hq], by omega, by rw [← hq]; exact hs⟩
      have HFIN := Lib.hid hfin
      clear hfin hq hs
      go_wp2_with fail
      go_ret
      exact ⟨HFIN.out, HB.out⟩
    have q1 : ((i : Nat) : Int) < (LL.length : Int) := by omega
    have q0 : (0 : Int) ≤ ((i : Nat) : Int) := by omega
    obtain ⟨l, hl⟩ : ∃ l, LL[i]? = some l := ⟨_, List.getElem?_eq_getElem hlt⟩
    have hll := HLEN.out l (List.mem_of_getElem? hl)
    have hlp := HL.out.ne l (List.mem_of_getElem? hl)
    obtain ⟨c', e1, e2, e3, e4, e5⟩ := (HL.out.below HB.out).each i l hl
    obtain ⟨g0, cap0, hg0⟩ : ∃ g0 cap0, Value.slice a LL.length c = .slice (some ⟨g0, 0, none⟩) LL.length cap0 := by
      rcases HL.out.row.2 with ⟨_, h0⟩ | ⟨g0, cap0, _, h1, _⟩
      · omega
      · exact ⟨g0, cap0, h1⟩
    cases hg0
    have r1 := row_cells (HL.out.below HB.out).row i _ e1
    have hcl := fun w' hx' hy' hz' hR' => ovClosure_any bc bo G (some ⟨g i, 0, none⟩) l c' w' hx' hy' hz' HGW.out (by omega) e2 (HC.out l (List.mem_of_getElem? hl)) hR'
    have HX0 := Lib.hid (keepC HB.out HXC.out)
    have HY0 := Lib.hid (keepC HB.out HYC.out)
    have HZ0 := Lib.hid (HZC.out.ext HB.out)
    have hst : (LL.take (i + 1)).filter p = (LL.take i).filter p ++ if p l = true then [l] else [] := by
      rw [List.take_add_one, hl, Option.toList_some, List.filter_append]
      congr 1
      cases hpl : p l <;> simp [hpl]
    rw [show ovlB G l = p l by rw [← HP.out]] at hcl
    have HD2 := Lib.hid (HD.out.ext HB.out)
    have HR2 : Hid (RectsIs wr.heap.size wr (some ⟨g i, 0, none⟩) l.length (pA l) (pB l) (pC l) (pD l)) := Lib.hid ((RowR.rects e4).mono (by omega))
    have HSI := Lib.hid e4
    have hgi := e3
    have hgw : g i < w.heap.size := by
      obtain ⟨_, _, _, h3, _⟩ := HL.out.each i l hl
      exact h3.2
    clear e3 e4 e5
    cases hpl : p l with
    | false =>
      rw [hpl] at hcl hst
      rw [if_neg (by simp), List.append_nil] at hst
      have HST := Lib.hid hst
      clear hst
      go_wp2_with (go_at_call 86; refine (hcl _ HX0.out HY0.out HZ0.out HR2.out).mono ?_; rintro e w5 ⟨rfl, bw5⟩)
      have HB5 := Lib.hid (Ext.trans HB.out bw5)
      have HS5 := Lib.hid (HS.out.below bw5)
      go_roundw
      case rel => exact ⟨i + 1, q, a8, c8, V', g', by omega, by omega, hqc, rfl, by go_num, HB5, Lib.hid (by rw [HST.out]; exact HQ.out), Lib.hid (by rw [HST.out]; exact HS5.out), HX, Lib.hid (fun t ht => by obtain ⟨j, h1, h2⟩ := HG.out t ht; exact ⟨j, by omega, h2⟩)⟩
      case measure => simp [intOf]; omega
    | true =>
      rw [hpl] at hcl hst
      rw [if_pos rfl] at hst
      have HST := Lib.hid hst
      clear hst
      obtain ⟨LLq, hLLq⟩ : ∃ LLq, (LL.take i).filter p = LLq := ⟨_, rfl⟩
      rw [hLLq] at HST HQ HS
      clear hLLq
      go_upto_region 6 with (go_at_call 86; refine (hcl _ HX0.out HY0.out HZ0.out HR2.out).mono ?_; rintro e w5 ⟨rfl, bw5⟩)
      have hs5 := bw5.size
      have HB5 := Lib.hid (Ext.trans HB.out bw5)
      have HL5 := Lib.hid (HS.out.below bw5)
      have HR5 := Lib.hid (HSI.out.below bw5 hgi.2)
      have hrow5 := HL5.out.row
      rw [← HQ.out] at hrow5
      have HRW5 := Lib.hid hrow5
      have hws := HB5.out.size
      clear hrow5 bw5 HS HR2 HSI HB HD2 hcl e1 r1
      go_wp2_with (at_builtin; refine wpList_append_own_at _ rfl _ _ 36 rfl B 26 i2 (.slice none 0 0) 1 24 Tryd.underlying36 hk hx0 hx1' hx2' rfl (by decide) _ _ _ rfl (HRW5.out.alloc _) ⟨w5.heap.size, 0, none⟩ 1 1 [.slice (some ⟨g i, 0, none⟩) l.length c'] rfl rfl ?c1 ?c2 ?c3 ?c4 ?c5 ?_)
      case c1 =>
        intro j u hj
        match j, hj with
        | 0, hj => simp at hj; subst hj; rw [addG]; simp [go_sem]
      case c2 => intro u hu; simp at hu; subst hu; rfl
      case c3 => unfold maxLen; omega
      case c4 => omega
      case c5 => (try simp only [World.size_alloc]); omega
      intro v' wn hown' hgrow _ hat
      have hq := HQ.out
      have bA : Below w5.heap.size w5 (w5.alloc (.cells #[.slice (some ⟨g i, 0, none⟩) l.length c'] 26)) := (Below.refl _ _).alloc (Nat.le_refl _) _
      have hls := LsOwn.snoc (x := g i) (c := c') (v' := v') (w' := wn) (HL5.out.below bA) hlp e2 ⟨hgi.1, by simp; omega⟩ (HR5.out.below bA (by omega)) (fun e => by have := HX.out _ e; omega) (fun t ht e => by
        obtain ⟨j, h1, h2⟩ := HG.out t (by omega)
        exact HL.out.inj j i (by omega) hlt (by omega) (h2.symm.trans e)) hgrow (by rw [← hq]; exact hown') (by rw [World.size_alloc]; exact hat)
      rw [← HST.out] at hls
      have hx' : ∀ b, v'.ownBlock = some b → w.heap.size ≤ b := fun b hb => by
        rcases hat with hat | hat
        · rw [hat] at hb; exact HX.out b hb
        · rw [hat] at hb
          have := Option.some.inj hb
          (try simp at this); omega
      have hql : q + 1 = ((LL.take (i + 1)).filter p).length := by rw [HST.out, List.length_append, List.length_singleton, hq]
      obtain ⟨a9, k9, rfl, hk9⟩ := own_sl hown'
      have HL6 := Lib.hid hls
      have HX6 := Lib.hid hx'
      have HQ6 := Lib.hid hql
      have HB6 := Lib.hid (show Below w.heap.size w wn from Below.grown (Below.trans HB5.out (bA.mono (by omega))) hgrow (by simp; omega) (fun t ht => HX.out t ht))
      have HG6 : Hid (∀ t, t < q + 1 → ∃ j, j < i + 1 ∧ (if t = LLq.length then g i else g' t) = g j) := Lib.hid (fun t ht => by
        by_cases e : t = LLq.length
        · rw [if_pos e]; exact ⟨i, by omega, rfl⟩
        · rw [if_neg e]
          obtain ⟨j, h1, h2⟩ := HG.out t (by omega)
          exact ⟨j, by omega, h2⟩)
      clear hls hx' hql hq hown' hgrow hat bA HL5 HB5 HRW5
      go_wp2_with fail
      go_roundw
      case rel => exact ⟨i + 1, q + 1, a9, k9, _, _, by omega, by omega, hk9, rfl, by go_num, HB6, HQ6, HL6, HX6, HG6⟩
      case measure => simp [intOf]; omega
set_option maxRecDepth 100000 in
set_option maxHeartbeats 8000000 in
theorem implSelectOverlapping_any (m : Option Addr) (n cap : Nat) (P Q R S : Nat → Int) (m' : Option Addr) (k cap' : Nat) (A B C D : Nat → Int) (w : World) (hn : n ≤ 1048576) (hcap : n ≤ cap) (hk : k ≤ 1048576) (hcap' : k ≤ cap') (hD : EnvW w) (hR : RectsIs w.heap.size w m n P Q R S) (hR' : RectsIs w.heap.size w m' k A B C D) :
    Calls Tryd.prog 35 #[.slice m n cap, .slice m' k cap'] w fun e w' => LOwn w.heap.size (soL P Q R S n A B C D k) e w' ∧ Below w.heap.size w w' := by
  have hz := zero59
  have HD := Lib.hid hD
  have HR := Lib.hid hR
  have HR' := Lib.hid hR'
  rw [← so_eq]
  have hcs := fun w' hD' hR' => implComponents_any m n cap P Q R S w' hn hcap hD' hR'
  have hlen := csL_len P Q R S n
  have hcan := csL_can P Q R S n
  have htot := cs_tot32 P Q R S n
  obtain ⟨LL, hLL⟩ : ∃ LL, csL P Q R S n = LL := ⟨_, rfl⟩
  rw [hLL] at hcs hlen hcan htot ⊢
  have hGw := (regG_rows A B C D k).word
  have hce := fun w' hD' hR2 => cellsOf_any m' k cap' A B C D w' hk hcap' hD' hR2
  obtain ⟨G, hG⟩ : ∃ G, regG A B C D k = G := ⟨_, rfl⟩
  rw [hG] at hGw hce ⊢
  have hsel := fun bc bo B a c V g w' h0' h1' hg' hB' hD' hL' => selOv_any bc bo G B a LL c V g w' h0' h1' hg' hGw hcan hB' hD' hlen (fun l hl => hcan.len hl) hL'
  have hfl : (LL.filter (ovlB G)).length ≤ 6400 := Nat.le_trans (List.length_filter_le _ _) hlen
  have hjp := fun B a c V g w' hB' hD' hL' => joinParts_any B a (LL.filter (ovlB G)) c V g w' hB' hfl (filt_can hcan _) (filt_tot htot _) hD' hL'
  obtain ⟨FF, hFF⟩ : ∃ FF, LL.filter (ovlB G) = FF := ⟨_, rfl⟩
  rw [hFF] at hsel hjp ⊢
  obtain ⟨res, hres⟩ : ∃ res, canonL (anyF FF) = res := ⟨_, rfl⟩
  rw [hres] at hjp ⊢
  obtain ⟨ob, hob⟩ : ∃ ob, okR A B C D k = ob := ⟨_, rfl⟩
  rw [hob] at hce
  have hix : ∀ w, (Instr.index 85 opsV (.int .i64 1)).run Tryd.prog w = .ok (.agg #[fnV 105, .bool false]) w := fun _ => by kernel_rfl
  have hmf : ∀ (fn : Fn) (first cap : Array Value) (w : World), (Instr.makeFunc fn first cap).run Tryd.prog w = .ok (.func fn first cap) w := fun _ _ _ _ => rfl
  clear hres hLL hFF hD hR hR' hcan htot hG hob
  go_enter Tryd.func35, Tryd.ntmps35
  go_wp2_with (first | (go_at_call 61; refine (hce _ (HD.out.ext (by (repeat (first | (with_reducible exact Below.refl _ _) | (with_reducible refine Ext.drewN ?_ _) | (with_reducible refine Below.drew ?_) | (with_reducible refine Ext.alloc ?_ _) | (with_reducible refine Ext.setCell ?_ (by simp; try omega) _) | (with_reducible refine Ext.trans ?_ (by assumption)) | (with_reducible assumption) | exact Below.refl _ _)))) (HR'.out.ext (by (repeat (first | (with_reducible exact Below.refl _ _) | (with_reducible refine Ext.drewN ?_ _) | (with_reducible refine Below.drew ?_) | (with_reducible refine Ext.alloc ?_ _) | (with_reducible refine Ext.setCell ?_ (by simp; try omega) _) | (with_reducible refine Ext.trans ?_ (by assumption)) | (with_reducible assumption) | exact Below.refl _ _))))).mono ?_; rintro e w1 ⟨rfl, bw1⟩; have r1 := RowsAt.new w1 (fun _ => 0); have st1 := store59 G r1; have sz1 := wArr_size G))
  have b1 : Below w1.heap.size w1 ((w1.alloc (.cells (wArr fun _ => 0) 60)).setRow w1.heap.size (wArr G)) := ((Below.refl _ _).alloc (Nat.le_refl _) _).trans (below_setRow _ _ (Nat.le_refl _))
  have r2 := r1.setRow G
  obtain ⟨wS, hwS⟩ : ∃ wS, wS = (w1.alloc (.cells (wArr fun _ => 0) 60)).setRow w1.heap.size (wArr G) := ⟨_, rfl⟩
  rw [← hwS] at b1 r2 ⊢
  have BS : Below w.heap.size w wS := Ext.trans bw1 b1
  obtain ⟨N1, hN1⟩ : ∃ N1, w1.heap.size = N1 := ⟨_, rfl⟩
  rw [hN1] at r2 ⊢
  clear hwS st1 sz1 r1 b1 bw1 hN1
  refine (operations_any _).mono ?_
  rintro e w2 ⟨rfl, bw2⟩
  go_wp2_with fail
  obtain ⟨wT, hwT⟩ : ∃ wT, wT = w2.alloc (.cells #[fnV 105, .bool false] 84) := ⟨_, rfl⟩
  have bT : Below wS.heap.size wS wT := by rw [hwT]; exact bw2.alloc bw2.size _
  have o0 : wT.cell? ⟨w2.heap.size, 0, none⟩ = some (fnV 105) := by rw [hwT]; simp [go_sem]
  have o1 : wT.cell? ⟨w2.heap.size, 1, none⟩ = some (.bool false) := by rw [hwT]; simp [go_sem]
  have r3 := r2.ext bT
  have BT := Ext.trans BS bT
  obtain ⟨N2, hN2⟩ : ∃ N2, w2.heap.size = N2 := ⟨_, rfl⟩
  rw [hN2] at o0 o1 ⊢
  rw [← hwT]
  clear hwT r2 bT BS bw2 hN2
  refine (hcs _ (HD.out.ext BT) (HR.out.ext BT)).mono ?_
  rintro e w3 ⟨⟨a1, c1, V1, g1, rfl, k1, l1⟩, bw3⟩
  have L1 := Lib.hid l1
  have B3 := Ext.trans BT bw3
  have o0' := keepC bw3 o0
  have o1' := keepC bw3 o1
  have r4 := r3.ext bw3
  have hs3 := bw3.size
  have hsT := BT.size
  clear l1 hcs o0 o1 r3 bw3
  go_wp2_with (first | (go_at_call 74; refine (hsel N2 N1 wT.heap.size _ _ _ _ _ o0' o1' r4 hs3 (HD.out.ext B3) L1.out).mono ?_; rintro e w4 ⟨⟨a2, c2, V2, g2, rfl, k2, l2⟩, bw4⟩; have L2 := Lib.hid l2; clear l2) | (go_at_call 82; refine (hjp wT.heap.size _ _ _ _ _ (by have := bw4.size; omega) (HD.out.ext (Ext.trans B3 bw4)) L2.out).mono ?_; rintro e w5 ⟨⟨a3, c3, rfl, k3, l3⟩, bw5⟩; have L3 := Lib.hid l3; clear l3))
  go_ret
  exact ⟨⟨a3, c3, rfl, L3.out.mono (Ext.trans B3 bw4).size⟩, Ext.trans (Ext.trans B3 bw4) bw5⟩
end Go.Proofs.YtepfnnhmplaocaaDoor
