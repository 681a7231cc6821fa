/- The program's upright edges: ranged over a map. Conditions: the rectangles' cells are in memory and make a region; the table of math/bits is in memory. -/
import Derived.Test.YtmabdemdapnmkaaGreatDoorEgL
namespace Go.Proofs.YtmabdemdapnmkaaGreatDoor
open Go.RowKit Go.Shelf Go.Maps
set_option linter.unusedVariables false
set_option linter.unusedSimpArgs false
attribute [local go_sem ↓] Go.wp_at_zero Go.wp_at_succ

def mkK (p : Int × Int) : Value := .agg #[.int .i64 p.1, .int .i64 p.2]
def mkP : Option Nat → Value
  | some b => .pointer (some ⟨b, 0, none⟩)
  | none => .pointer none
theorem next_P {P : Program} (hP : P = Tryz.prog) (w : World) {ops : Array Oper} {rest : List Oper} {o : Oper} {a : Act} {Q : Exit → Act → World → Prop} (hg : o.guard = none) (it : Operand) (hop : o.op = Op.next it false)
    (b r n : Nat) (D : DataW Unit) (M : Int → Int → Option Nat) (hM : MapIs D M) (left : Lit → Bool) (cnt : Nat) (hit : a.eval it = .pointer (some ⟨r, 0, none⟩)) (h : w.ranges Tryz.prog 71 ptrElem b r n D left cnt)
    (hDone : cnt = 0 → (∀ kl, left kl = false) → wpList Tryz.prog ops Q rest (a.put o.dst (.tuple #[.bool false])) w)
    (hMore : ∀ (c t : Int) (k : Nat) (w' : World) (cnt' : Nat), Bd c → Bd t → M c t = some k → left (klP c t) = true → w'.ranges Tryz.prog 71 ptrElem b r n D (fun z => left z && !z.sameKey (klP c t)) cnt' → cnt' < cnt → w.grownBy w' (some r) → w'.heap.size = w.heap.size →
      (Instr.entry (.pointer (some ⟨r, 0, none⟩))).run Tryz.prog w' = .ok (.tuple #[.agg #[.int .i64 c, .int .i64 t], .pointer (some ⟨k, 0, none⟩)]) w' → wpList Tryz.prog ops Q rest (a.put o.dst (.tuple #[.bool true, .agg #[.int .i64 c, .int .i64 t], .pointer (some ⟨k, 0, none⟩)])) w') :
    wpList Tryz.prog ops Q (o :: rest) a w := by
  refine wpList_next_ranges w hg it hop 71 keyedP ptrElem mkK mkP (fun key kl hk => ?_) (fun v y hv => ?_) b r n D left cnt hit h hDone ?_
  · obtain ⟨x, y, rfl, -⟩ := keyP_inv hk
    exact ⟨(x, y), rfl⟩
  · rcases ptrElem_inv (d := y.1) (ps := y.2) hv with ⟨k, rfl, -⟩ | ⟨rfl, -⟩
    · exact ⟨some k, rfl⟩
    · exact ⟨none, rfl⟩
  · intro x c kl y w' cnt' hkey hl hv hat hrg hlt hgr hsz hen
    obtain ⟨c1, t1, e1, rfl⟩ := keyP_inv hkey
    obtain ⟨hc, ht⟩ : x.1 = c1 ∧ x.2 = t1 := by simpa [mkK] using e1
    have hhas := has_true_of_atKey hat
    obtain ⟨c2, t2, b1, b2, e2⟩ := hM.keys _ hhas
    obtain ⟨k, hk⟩ : ∃ k, M c2 t2 = some k := Option.isSome_iff_exists.1 (by rw [← hM.has _ _ b1 b2, ← e2]; exact hhas)
    have hval := hM.val _ _ k b1 b2 hk .nil
    rw [← e2, hat] at hval
    have hcv : mkP c = .pointer (some ⟨k, 0, none⟩) := by
      rcases ptrElem_inv (d := y.1) (ps := y.2) hv with ⟨j, e, d⟩ | ⟨e, d⟩
      · rw [e]
        rw [d] at hval
        rw [pE_inj hval]
      · rw [d] at hval
        exact absurd hval.symm (pE_nil k)
    have hkx : mkK x = .agg #[.int .i64 c2, .int .i64 t2] := by
      have h2 := keyOfP b1 b2
      rw [← e2] at h2
      exact keyedP.inj hkey h2
    rw [hcv, hkx] at hen ⊢
    rw [e2] at hl hrg
    exact hMore c2 t2 k w' cnt' b1 b2 hk hl hrg hlt hgr hsz hen

/-- The upright edges of a set. -/
def VertE (f : Nat → Bool) (e : R4) : Prop := ∃ (o : Nat) (c lo hi : Int), (o = 2 ∨ o = 3) ∧ MaxI (gS f o c) lo hi ∧ e = mkE o c lo hi
def VRes (base : Nat) (f : Nat → Bool) (e : Ending) (w : World) : Prop := ∃ (v : Value) (L : List R4), e = .returned v ∧ w.ownsRow base 32 4 v L.length (recCells L) ∧ L.length ≤ 6561 ∧ L.Nodup ∧ ∀ g, g ∈ L ↔ VertE f g

theorem ranges_drew {w : World} {P : Program} {k : TypeId} {R : Value → Option (DataW Unit × List MemPlace)} {b r n : Nat} {D : DataW Unit} {left : Lit → Bool} {cnt : Nat} (h : w.ranges P k R b r n D left cnt) : w.drew.ranges P k R b r n D left cnt := by
  unfold World.ranges at *
  exact h
theorem infoEg : (Tryz.prog.info? 32).map (fun i => (i.zero, i.size, i.bytes)) = some (some (.agg #[.int .i64 0, .int .i64 0, .int .i64 0, .int .i64 0]), 4, 32) := by kernel_rfl
/-- What has been collected: the edges of the lowest sides that have come out of the map. -/
def CollE (M : Int → Int → Option Nat) (Ed : Nat → R4) (left : Lit → Bool) (L : List R4) : Prop :=
  L.Nodup ∧ ∀ g, g ∈ L ↔ ∃ c t b, (Bd c ∧ Bd t) ∧ M c t = some b ∧ left (klP c t) = false ∧ Ed b = g ∧ t = min g.b g.d
theorem CollE.start {D : DataW Unit} {M : Int → Int → Option Nat} (hM : MapIs D M) (Ed : Nat → R4) : CollE M Ed (Maps.has D) [] :=
  ⟨.nil, fun g => ⟨fun h => by simp at h, fun ⟨c, t, b, ⟨b1, b2⟩, h1, h2, _⟩ => by rw [hM.has _ _ b1 b2, h1] at h2; cases h2⟩⟩
theorem left_iff {left : Lit → Bool} {c t c' t' : Int} (b1 : Bd c) (b2 : Bd t) (b1' : Bd c') (b2' : Bd t') : (left (klP c' t') && !(klP c' t').sameKey (klP c t)) = false ↔ left (klP c' t') = false ∨ (c' = c ∧ t' = t) := by
  by_cases e : c' = c ∧ t' = t
  · rw [e.1, e.2, WideAt.sameKey_self (isKeyP b1 b2)]
    simp
  · rw [sameKey_ne (fun h => e (klP_inj b1' b2' b1 b2 h))]
    simp [e]
theorem CollE.skip {M : Int → Int → Option Nat} {Ed : Nat → R4} {left : Lit → Bool} {L : List R4} (h : CollE M Ed left L) {c t : Int} {k : Nat} (b1 : Bd c) (b2 : Bd t) (hk : M c t = some k) (hm : t ≠ min (Ed k).b (Ed k).d) : CollE M Ed (fun z => left z && !z.sameKey (klP c t)) L := by
  refine ⟨h.1, fun g => (h.2 g).trans ⟨?_, ?_⟩⟩
  · rintro ⟨c', t', b', ⟨d1, d2⟩, h1, h2, h3⟩
    exact ⟨c', t', b', ⟨d1, d2⟩, h1, (left_iff b1 b2 d1 d2).2 (.inl h2), h3⟩
  · rintro ⟨c', t', b', ⟨d1, d2⟩, h1, h2, h3, h4⟩
    rcases (left_iff b1 b2 d1 d2).1 h2 with h5 | ⟨rfl, rfl⟩
    · exact ⟨c', t', b', ⟨d1, d2⟩, h1, h5, h3, h4⟩
    · rw [hk] at h1
      cases h1
      rw [← h3] at h4
      exact absurd h4 hm
theorem CollE.take {d : Nat → Int → Int → Bool} {M : Int → Int → Option Nat} {Ed : Nat → R4} {left : Lit → Bool} {L : List R4} (h : CollE M Ed left L) (hU : UpI d M Ed) {c t : Int} {k : Nat} (b1 : Bd c) (b2 : Bd t) (hk : M c t = some k) (hl : left (klP c t) = true) (hm : t = min (Ed k).b (Ed k).d) :
    CollE M Ed (fun z => left z && !z.sameKey (klP c t)) (L ++ [Ed k]) := by
  have hcol : ∀ {c' t' b'}, M c' t' = some b' → Ed b' = Ed k → c' = c := fun {c' t' b'} h1 h2 => by
    obtain ⟨o, lo, hi, ho, hmx, -, -, e⟩ := hU.edge _ _ _ hk
    obtain ⟨o', lo', hi', ho', hmx', -, -, e'⟩ := hU.edge _ _ _ h1
    exact ((mkE_inj (o23 ho) (o23 ho') hmx.1 hmx'.1 (e.symm.trans (h2.symm.trans e'))).2.1).symm
  refine ⟨?_, fun g => ?_⟩
  · rw [List.nodup_append]
    refine ⟨h.1, by simp, fun a ha b' hb' e => ?_⟩
    rw [List.mem_singleton] at hb'
    subst hb'
    obtain ⟨c', t', j, ⟨d1, d2⟩, h1, h2, h3, h4⟩ := (h.2 a).1 ha
    have hc := hcol h1 (h3.trans e)
    rw [e] at h4
    rw [hc, h4, ← hm, hl] at h2
    cases h2
  · rw [List.mem_append, List.mem_singleton, h.2]
    constructor
    · rintro (⟨c', t', b', ⟨d1, d2⟩, h1, h2, h3⟩ | rfl)
      · exact ⟨c', t', b', ⟨d1, d2⟩, h1, (left_iff b1 b2 d1 d2).2 (.inl h2), h3⟩
      · exact ⟨c, t, k, ⟨b1, b2⟩, hk, (left_iff b1 b2 b1 b2).2 (.inr ⟨rfl, rfl⟩), rfl, hm⟩
    · rintro ⟨c', t', b', ⟨d1, d2⟩, h1, h2, h3, h4⟩
      rcases (left_iff b1 b2 d1 d2).1 h2 with h5 | ⟨rfl, rfl⟩
      · exact .inl ⟨c', t', b', ⟨d1, d2⟩, h1, h5, h3, h4⟩
      · rw [hk] at h1
        cases h1
        exact .inr h3.symm
theorem mkE_min {o : Nat} {c lo hi : Int} (ho : o = 2 ∨ o = 3) (h : lo < hi) : min (mkE o c lo hi).b (mkE o c lo hi).d = lo := by
  rcases ho with rfl | rfl <;> simp only [mkE] <;> omega
theorem CollE.done {f : Nat → Bool} {M : Int → Int → Option Nat} {Ed : Nat → R4} {left : Lit → Bool} {L : List R4} (h : CollE M Ed left L) (hU : UpI (gS f) M Ed) (hl : ∀ kl, left kl = false) (g : R4) : g ∈ L ↔ VertE f g := by
  rw [h.2]
  constructor
  · rintro ⟨c, t, b, -, h1, -, rfl, -⟩
    obtain ⟨o, lo, hi, ho, hm, -, -, e⟩ := hU.edge _ _ _ h1
    exact ⟨o, c, lo, hi, ho, hm, e⟩
  · rintro ⟨o, c, lo, hi, ho, hm, rfl⟩
    have hg := hm.2.1 lo (Int.le_refl _) hm.1
    have hb := gS_t hg
    have hs : (M c lo).isSome = true := by
      rw [hU.dom]
      rcases ho with rfl | rfl <;> simp [hg]
    obtain ⟨b, hb'⟩ := Option.isSome_iff_exists.1 hs
    obtain ⟨o', lo', hi', ho', hm', t1, t2, e⟩ := hU.edge _ _ _ hb'
    have hg' := hm'.2.1 lo t1 t2
    have hoo : o' = o := by
      rcases ho with rfl | rfl <;> rcases ho' with rfl | rfl
      · rfl
      · rw [gS23 _ _ _ hg] at hg'; cases hg'
      · rw [gS23 _ _ _ hg'] at hg; cases hg
      · rfl
    subst hoo
    obtain ⟨rfl, rfl⟩ := hm.eq hm' (Int.le_refl _) hm.1 t1 t2
    exact ⟨c, lo, b, ⟨⟨by omega, by omega⟩, ⟨by omega, by omega⟩⟩, hb', hl _, e, (mkE_min ho hm.1).symm⟩
theorem own_lower {w : World} {base base' n : Nat} {v : Value} {xs : List Value} (h : w.ownsRow base 32 4 v n xs) (hb : base' ≤ base) : w.ownsRow base' 32 4 v n xs := by
  refine ⟨h.1, ?_⟩
  rcases h.2 with h' | ⟨g, cap, cur, e1, e2, e3⟩
  · exact .inl h'
  · exact .inr ⟨g, cap, cur, e1, by omega, e3⟩

theorem e1_newsW {w1 : World} {t : TypeId} (a b c d : Int) : ∀ j u, ([.int .i64 a, .int .i64 b, .int .i64 c, .int .i64 d] : List Value)[j]? = some u → (w1.alloc (.cells #[.int .i64 a, .int .i64 b, .int .i64 c, .int .i64 d] t)).cell? ((⟨w1.heap.size, 0, none⟩ : Addr).add j) = some u := by
  intro j u hj
  match j, hj with
  | 0, hj => simp at hj; subst hj; rw [addG]; simp [go_sem]
  | 1, hj => simp at hj; subst hj; rw [addG]; simp [go_sem]
  | 2, hj => simp at hj; subst hj; rw [addG]; simp [go_sem]
  | 3, hj => simp at hj; subst hj; rw [addG]; simp [go_sem]
  | (k + 4), hj => simp at hj
theorem e1_newsX {w1 : World} {t : TypeId} {b' : Nat} (hb : b' = w1.heap.size) (a b c d : Int) : ∀ j u, ([.int .i64 a, .int .i64 b, .int .i64 c, .int .i64 d] : List Value)[j]? = some u → (w1.alloc (.cells #[.int .i64 a, .int .i64 b, .int .i64 c, .int .i64 d] t)).cell? ((⟨b', 0, none⟩ : Addr).add j) = some u := by
  subst hb
  exact e1_newsW a b c d
theorem ints_oneW (a b c d : Int) : ∀ u ∈ ([.int .i64 a, .int .i64 b, .int .i64 c, .int .i64 d] : List Value), u.oneCell' = true := fun u hu => by
  simp at hu
  rcases hu with rfl | rfl | rfl | rfl <;> rfl

set_option maxRecDepth 100000 in
set_option maxHeartbeats 8000000 in
theorem uprightEdges_any (m : Option Addr) (n cap : Nat) (P Q R S : Nat → Int) (w : World) (hn : n ≤ 1048576) (hcap : n ≤ cap) (hD : EnvW w) (hR : RectsIs w.heap.size w m n P Q R S) (hok : okR P Q R S n = true) :
    Calls Tryz.prog 45 #[.slice m n cap] w fun e w' => VRes w.heap.size (covF P Q R S n) e w' ∧ Below w.heap.size w w' := by
  obtain ⟨f, hf⟩ : ∃ f, f = covF P Q R S n := ⟨_, rfl⟩
  have hup := fun w' hD' hR' => uprightSides_any m n cap P Q R S w' hn hcap hD' hR' hok
  rw [← hf] at hup ⊢
  clear hf
  obtain ⟨i0, hin, hz0, hz1, hz2⟩ := info_parts infoEg
  go_enter Tryz.func45, Tryz.ntmps45
  go_wp2_with (first | (go_at_call 91; refine (hup _ (hD.ext (by (repeat (first | (with_reducible exact Below.refl _ _) | (with_reducible refine Ext.drewN ?_ _) | (with_reducible refine Below.drew ?_) | (with_reducible refine Ext.alloc ?_ _) | (with_reducible refine Ext.setCell ?_ (by simp; try omega) _) | (with_reducible refine Ext.trans ?_ (by assumption)) | (with_reducible assumption) | exact Below.refl _ _)))) (hR.ext (by (repeat (first | (with_reducible exact Below.refl _ _) | (with_reducible refine Ext.drewN ?_ _) | (with_reducible refine Below.drew ?_) | (with_reducible refine Ext.alloc ?_ _) | (with_reducible refine Ext.setCell ?_ (by simp; try omega) _) | (with_reducible refine Ext.trans ?_ (by assumption)) | (with_reducible assumption) | exact Below.refl _ _))))).mono ?_; rintro e w1 ⟨⟨mb, k, rfl, hmb, hk, D, M, Ed, hown, hM, hU, hE⟩, bw1⟩) | (at_range; refine wpList_range_own _ rfl _ 122 rfl 71 124 keyedP mapHT ptrElem mb k D rfl hown ?_; intro w0 hrg0 hg0 hs0))
  go_frame
  have hsz : Maps.size D ≤ k := hown.size_le
  have b0 : Below w1.heap.size w1 w0 := ⟨hg0.os, hg0.tape, hg0.output, hg0.size, fun j hj => hg0.block j hj (by simp)⟩
  have HE := Lib.hid hE
  have HM := Lib.hid hM
  have HU := Lib.hid hU
  have mbl := hown.lt
  have bw1s := bw1.size
  clear hE hM hU hown hup
  go_loopw [3] (fun s3 wr => ∃ (left : Lit → Bool) (cnt : Nat) (L : List R4), wr.ranges Tryz.prog 71 ptrElem mb w1.heap.size k D left cnt ∧ Hid (wr.ownsRow (w1.heap.size + 1) 32 4 s3 L.length (recCells L)) ∧ Hid (CollE M Ed left L) ∧ Hid (Below w1.heap.size w1 wr) ∧ L.length + cnt ≤ k ∧ w1.heap.size + 1 ≤ wr.heap.size) (fun _ wr => wr.rangeLeft mb w1.heap.size)
  case atStart => exact ⟨_, _, [], hrg0, Lib.hid (World.ownsRow_nil _ _ _ _), Lib.hid (CollE.start HM.out Ed), Lib.hid b0, by simpa using hsz, by omega⟩
  case round =>
    obtain ⟨left, cnt, L, hrg, HO, HC, HB, hlen, hwr⟩ := hrel
    have hreq := hrg.left_eq
    clear hrg0 hg0 hs0
    go_wp2_with (at_next; refine next_P rfl _ rfl _ rfl mb w1.heap.size k D M HM.out left cnt rfl hrg ?_ ?_)
    · intro hc0 hl0
      have HL0 := Lib.hid hl0
      clear hl0
      go_wp2_with fail
      refine bodyPost_ret (results_tmp rfl _ _ _) rfl ⟨⟨_, L, rfl, own_lower HO.out (by omega), by omega, HC.out.1, fun g => HC.out.done HU.out HL0.out g⟩, Ext.trans bw1 HB.out⟩
    · intro c t kk w2 cnt2 bc bt hkk hlk hrg2 hlt2 hg2 hs2 hen
      obtain ⟨e, he⟩ : ∃ e, e = Ed kk := ⟨_, rfl⟩
      have hk1 := (HE.out c t kk hkk).2
      have hk1l : kk < w1.heap.size := (Array.getElem?_eq_some_iff.1 hk1).1
      have hk2 : w2.heap[kk]? = some (eObj e) := by
        rw [he, hg2.block _ (by omega) (fun h => by simp at h; omega)]
        exact (HB.out.block _ hk1l).trans hk1
      obtain ⟨⟨c0, c1, c2, c3⟩, -⟩ := eObj_cells hk2
      have HO2 := Lib.hid (HO.out.kept hg2 (.inr fun h => by have := (HO.out.lt _ h).1; omega))
      have hB2 : Below w1.heap.size w1 w2 := HB.out.trans ⟨hg2.os, hg2.tape, hg2.output, hg2.size, fun j hj => hg2.block j (by omega) (fun h => by simp at h; omega)⟩
      have HB2 := Lib.hid hB2
      have HKK := Lib.hid hkk
      have HLK := Lib.hid hlk
      have HEE := Lib.hid he
      have hw2 : w1.heap.size + 1 ≤ w2.heap.size := by omega
      have kl2 : kk < w2.heap.size := by omega
      clear hk1 hk2 hkk hlk he hs2 hB2 hg2
      cases hq : (t == if e.d < e.b then e.d else e.b) with
      | false =>
        have hne : t ≠ min e.b e.d := fun h => by
          rw [Bool.eq_false_iff] at hq
          exact hq (by rw [beq_iff_eq, h]; split <;> omega)
        have HNE := Lib.hid hne
        clear hne
        have hrg3 := ranges_drew (hrg2.alloc (.cells #[.int .i64 c, .int .i64 t] 71))
        go_wp2_with fail
        go_region
        go_wp2_with fail
        go_roundw
        case rel => exact ⟨_, cnt2, L, hrg3, Lib.hid ((HO2.out.alloc _).drew), Lib.hid (HC.out.skip bc bt HKK.out (by rw [← HEE.out]; exact HNE.out)), Lib.hid ((Ext.alloc HB2.out _).drew), by omega, by simp; omega⟩
        case measure => exact (show World.rangeLeft _ mb w1.heap.size < World.rangeLeft wr mb w1.heap.size by rw [hreq]; exact (hrg3.left_eq ▸ hlt2 : World.rangeLeft (w2.alloc (.cells #[.int .i64 c, .int .i64 t] 71)).drew mb w1.heap.size < cnt))
      | true =>
        have heq : t = min e.b e.d := by
          rw [beq_iff_eq] at hq
          rw [hq]
          split <;> omega
        have HEQ := Lib.hid heq
        clear heq
        have hrg3 := (ranges_drew (hrg2.alloc (.cells #[.int .i64 c, .int .i64 t] 71))).alloc (.cells #[.int .i64 e.a, .int .i64 e.b, .int .i64 e.c, .int .i64 e.d] 32)
        go_wp2_with fail
        go_region
        go_wp2_with (at_builtin; go_loud (refine wpList_append_own _ rfl _ _ 27 rfl (w1.heap.size + 1) 32 i0 (.agg #[.int .i64 0, .int .i64 0, .int .i64 0, .int .i64 0]) 4 32 Tryz.underlying27 hin hz0 hz1 hz2 rfl (by decide) _ _ _ rfl ((HO2.out.alloc _).drew.alloc _) ⟨_, 0, none⟩ 1 1 [.int .i64 _, .int .i64 _, .int .i64 _, .int .i64 _] rfl rfl (e1_newsX (by simp) _ _ _ _) (ints_oneW _ _ _ _) (by unfold maxLen; omega) (by omega) (by simp; omega) ?_); intro v' w3 hown3 hgrow hnil)
        have hob : ∀ j, u3.ownBlock = some j → w1.heap.size + 1 ≤ j := fun j hj => (HO2.out.lt j hj).1
        have hrg4 := World.ranges.kept (w := ((w2.alloc (.cells #[.int .i64 c, .int .i64 t] 71)).drew.alloc (.cells #[.int .i64 e.a, .int .i64 e.b, .int .i64 e.c, .int .i64 e.d] 32))) hrg3 hgrow (fun h => by have := hob _ h.symm; omega) (fun h => by have := hob _ h.symm; omega)
        have hB3 : Below w1.heap.size w1 w3 := by
          have h9 : Below w1.heap.size w1 ((w2.alloc (.cells #[.int .i64 c, .int .i64 t] 71)).drew.alloc (.cells #[.int .i64 e.a, .int .i64 e.b, .int .i64 e.c, .int .i64 e.d] 32)) := Ext.alloc (Ext.alloc HB2.out _).drew _
          exact h9.grown hgrow h9.size (fun j hj => by have := hob j hj; omega)
        have hs9 := hgrow.size
        have hl4 := hrg4.left_eq
        have OW := Lib.hid hown3
        have HB3 := Lib.hid hB3
        clear hown3 hgrow hnil hB3
        go_wp2_with fail
        go_roundw
        case rel => exact ⟨_, cnt2, L ++ [e], hrg4, Lib.hid (by rw [recCells_snoc, List.length_append]; exact OW.out), Lib.hid (by rw [HEE.out]; exact HC.out.take HU.out bc bt HKK.out HLK.out (by rw [← HEE.out]; exact HEQ.out)), HB3, by simp; omega, by simp at hs9; omega⟩
        case measure => rw [hl4, hreq]; exact hlt2
end Go.Proofs.YtmabdemdapnmkaaGreatDoor
