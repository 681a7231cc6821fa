/- The model's full squares and the flags that they paint. Conditions: the flags are in memory. -/
import Derived.Test.YtgccnongfdbalaaDoorQV
import Derived.Test.YtgccnongfdbalaaDoorQZ
import Derived.Test.YtgccnongfdbalaaDoorQI
import Derived.Test.YtgccnongfdbalaaDoorQT
namespace Go.Proofs.YtgccnongfdbalaaDoor
open Go.RowKit
set_option linter.unusedVariables false
set_option linter.unusedSimpArgs false

/-- The cells x .. x + m - 1 of row v are set. -/
def rwB (f : Nat → Bool) (x v : Int) : Nat → Bool
  | 0 => true
  | m + 1 => rwB f x v m && hasB f (x + (m : Int)) v
def fullN (f : Nat → Bool) (k : Nat) (x y : Int) : Nat → Bool
  | 0 => true
  | m + 1 => fullN f k x y m && rwB f x (y + (m : Int)) k
theorem rwB_t (f : Nat → Bool) (x v : Int) : ∀ m, rwB f x v m = true ↔ ∀ u : Nat, u < m → hasB f (x + (u : Int)) v = true
  | 0 => by simp [rwB]
  | m + 1 => by
    rw [rwB, Bool.and_eq_true, rwB_t f x v m]
    constructor
    · rintro ⟨h1, h2⟩ u hu
      by_cases e : u = m
      · exact e ▸ h2
      · exact h1 u (by omega)
    · intro h
      exact ⟨fun u hu => h u (by omega), h m (by omega)⟩
theorem fullN_t (f : Nat → Bool) (k : Nat) (x y : Int) : ∀ m, fullN f k x y m = true ↔ ∀ v : Nat, v < m → ∀ u : Nat, u < k → hasB f (x + (u : Int)) (y + (v : Int)) = true
  | 0 => by simp [fullN]
  | m + 1 => by
    rw [fullN, Bool.and_eq_true, fullN_t f k x y m, rwB_t]
    constructor
    · rintro ⟨h1, h2⟩ v hv
      by_cases e : v = m
      · exact e ▸ h2
      · exact h1 v (by omega)
    · intro h
      exact ⟨fun v hv => h v (by omega), h m (by omega)⟩
theorem full_no {f : Nat → Bool} {k m u : Nat} {x y : Int} (hm : m < k) (hu : u < k) (h : hasB f (x + (u : Int)) (y + (m : Int)) = false) : fullN f k x y k = false := by
  rw [Bool.eq_false_iff]
  intro e
  rw [(fullN_t _ _ _ _ _).1 e m hm u hu] at h
  cases h

set_option maxHeartbeats 8000000 in
set_option maxRecDepth 100000 in
theorem l05Full_any (g c : Nat) (f : Nat → Bool) (k : Nat) (x y : Int) (hk : k ≤ 10) (hx : -40 ≤ x ∧ x ≤ 39) (hy : -40 ≤ y ∧ y ≤ 39) (w : World) (hF : BitsIs w g f) :
    Calls Tryd.prog 101 #[.slice (some ⟨g, 0, none⟩) 6400 c, .int .i64 x, .int .i64 y, .int .i64 (k : Int)] w fun e w' => e = .returned (.bool (fullN f k x y k)) ∧ w = w' := by
  have HF := Lib.hid hF
  clear hF
  go_enter Tryd.func101, Tryd.ntmps101
  go_wp2_with fail
  go_loopw [9] (fun s wr => ∃ m : Nat, m ≤ k ∧ s = .int .i64 (y + m) ∧ w = wr ∧ Hid (fullN f k x y m = true)) (fun s _ => (y + k - intOf s).toNat)
  case atStart => exact ⟨0, by omega, by go_num, rfl, Lib.hid rfl⟩
  case round =>
    obtain ⟨m, hm, rfl, rfl, HM⟩ := hrel
    obtain ⟨v, hv⟩ : ∃ v : Int, v = y + (m : Int) := ⟨_, rfl⟩
    have v0 : -40 ≤ v := by omega
    have v1 : v ≤ 49 := by omega
    rw [← hv]
    have HV := Lib.hid hv
    by_cases hlt : m < k
    · have q1 : v < y + (k : Int) := by omega
      clear hv
      go_wp2_with fail
      go_loopw [10] (fun s wx => ∃ u : Nat, u ≤ k ∧ s = .int .i64 (x + u) ∧ w = wx ∧ Hid (rwB f x v u = true)) (fun s _ => (x + k - intOf s).toNat)
      case atStart => exact ⟨0, by omega, by go_num, rfl, Lib.hid rfl⟩
      case round =>
        obtain ⟨u, hu, rfl, rfl, HU⟩ := hrel
        obtain ⟨t, ht⟩ : ∃ t : Int, t = x + (u : Int) := ⟨_, rfl⟩
        have t0 : -40 ≤ t := by omega
        have t1 : t ≤ 49 := by omega
        rw [← ht]
        have HT := Lib.hid ht
        by_cases hul : u < k
        · have p1 : t < x + (k : Int) := by omega
          clear ht
          cases hh : hasB f t v with
          | true =>
            have HN : Hid (rwB f x v (u + 1) = true) := Lib.hid (by rw [rwB, HU.out, ← HT.out, hh]; rfl)
            have HHH := Lib.hid hh
            clear hh
            go_wp2_with (first | (go_at_call 133; refine (l03Has_any g c f t v _ HF.out).mono ?_; rintro e wz ⟨rfl, rfl⟩; rw [HHH.out]))
            go_roundw
            case rel => exact ⟨u + 1, by omega, by rw [HT.out]; go_num, by trivial, HN⟩
            case measure => have := HT.out; simp [intOf]; omega
          | false =>
            have HN : Hid (fullN f k x y k = false) := Lib.hid (full_no hlt hul (by rw [← HT.out, ← HV.out]; exact hh))
            have HHH := Lib.hid hh
            clear hh
            go_wp2_with (first | (go_at_call 133; refine (l03Has_any g c f t v _ HF.out).mono ?_; rintro e wz ⟨rfl, rfl⟩; rw [HHH.out]))
            go_ret
            exact ⟨by rw [HN.out]; rfl, rfl⟩
        · have p1 : ¬ t < x + (k : Int) := by omega
          obtain rfl : u = k := by omega
          clear ht
          have HN : Hid (fullN f u x y (m + 1) = true) := Lib.hid (by rw [fullN, HM.out, ← HV.out, HU.out]; rfl)
          go_wp2_with fail
          go_roundw
          case rel => exact ⟨m + 1, by omega, by rw [HV.out]; go_num, by trivial, HN⟩
          case measure => have := HV.out; simp [intOf]; omega
    · have q1 : ¬ v < y + (k : Int) := by omega
      obtain rfl : m = k := by omega
      clear hv
      go_wp2_with fail
      go_ret
      exact ⟨by rw [HM.out]; rfl, rfl⟩
end Go.Proofs.YtgccnongfdbalaaDoor

namespace Go.Proofs.YtgccnongfdbalaaDoor
open Go.RowKit
set_option linter.unusedVariables false
set_option linter.unusedSimpArgs false
attribute [local go_sem ↓] Go.wp_at_zero Go.wp_at_succ

/-- The square at corner i is in the set. -/
def cornB (f : Nat → Bool) (k i : Nat) : Bool := fullN f k (((i % 80 : Nat) : Int) - 40) (((i / 80 : Nat) : Int) - 40) k
def inSq (k i j : Nat) : Bool := decide (i % 80 ≤ j % 80) && decide (j % 80 < i % 80 + k) && (decide (i / 80 ≤ j / 80) && decide (j / 80 < i / 80 + k))
def sqF (f : Nat → Bool) (k : Nat) : Nat → Nat → Bool
  | 0, _ => false
  | n + 1, j => sqF f k n j || (cornB f k n && inSq k n j)
def pnF (g : Nat → Bool) (k i m n j : Nat) : Bool := g j || ((decide (i % 80 ≤ j % 80) && decide (j % 80 < i % 80 + k) && (decide (i / 80 ≤ j / 80) && decide (j / 80 < i / 80 + m))) || (decide (i % 80 ≤ j % 80) && decide (j % 80 < i % 80 + n) && decide (j / 80 = i / 80 + m)))
theorem pn_start (g : Nat → Bool) (k i j : Nat) : g j = pnF g k i 0 0 j := by
  unfold pnF
  rw [Bool.eq_iff_iff]
  simp only [Bool.or_eq_true, Bool.and_eq_true, decide_eq_true_eq]
  constructor
  · intro h; exact .inl h
  · rintro (h | h | h)
    · exact h
    · omega
    · omega
theorem pn_step (g : Nat → Bool) (k i m n j : Nat) (hn : i % 80 + n < 80) : (pnF g k i m n j || decide (j = (i / 80 + m) * 80 + (i % 80 + n))) = pnF g k i m (n + 1) j := by
  unfold pnF
  rw [Bool.eq_iff_iff]
  simp only [Bool.or_eq_true, Bool.and_eq_true, decide_eq_true_eq]
  constructor
  · rintro ((h | h | h) | h)
    · exact .inl h
    · exact .inr (.inl h)
    · exact .inr (.inr (by omega))
    · exact .inr (.inr (by omega))
  · rintro (h | h | h)
    · exact .inl (.inl h)
    · exact .inl (.inr (.inl h))
    · by_cases e : j % 80 = i % 80 + n
      · exact .inr (by omega)
      · exact .inl (.inr (.inr (by omega)))
theorem pn_row (g : Nat → Bool) (k i m j : Nat) : pnF g k i m k j = pnF g k i (m + 1) 0 j := by
  unfold pnF
  rw [Bool.eq_iff_iff]
  simp only [Bool.or_eq_true, Bool.and_eq_true, decide_eq_true_eq]
  constructor
  · rintro (h | h | h)
    · exact .inl h
    · exact .inr (.inl (by omega))
    · exact .inr (.inl (by omega))
  · rintro (h | h | h)
    · exact .inl h
    · by_cases e : j / 80 = i / 80 + m
      · exact .inr (.inr (by omega))
      · exact .inr (.inl (by omega))
    · omega
theorem pn_end (f : Nat → Bool) (k i j : Nat) (hc : cornB f k i = true) : pnF (sqF f k i) k i k 0 j = sqF f k (i + 1) j := by
  rw [sqF, hc, Bool.true_and]
  unfold pnF inSq
  rw [Bool.eq_iff_iff]
  simp only [Bool.or_eq_true, Bool.and_eq_true, decide_eq_true_eq]
  constructor
  · rintro (h | h | h)
    · exact .inl h
    · exact .inr (by omega)
    · omega
  · rintro (h | h)
    · exact .inl h
    · exact .inr (.inl (by omega))
theorem sq_no (f : Nat → Bool) (k i j : Nat) (hc : cornB f k i = false) : sqF f k i j = sqF f k (i + 1) j := by rw [sqF, hc, Bool.false_and, Bool.or_false]
/-- A full square lies on the chip. -/
theorem corn_in {f : Nat → Bool} {k i : Nat} (hk : 0 < k) (h : cornB f k i = true) : i % 80 + k ≤ 80 ∧ i / 80 + k ≤ 80 := by
  unfold cornB at h
  have := (fullN_t _ _ _ _ _).1 h (k - 1) (by omega) (k - 1) (by omega)
  unfold hasB at this
  simp only [Bool.and_eq_true] at this
  have h2 := inC_t this.1
  omega

/-- What SquareCover answers. -/
def sqL (P Q R S : Nat → Int) (n : Nat) (k : Int) : List R4 := if (okR P Q R S n && (inB k 0 10 && !(k == 0))) = true then canonL (sqF (covF P Q R S n) k.toNat 6400) else []
theorem sqL_len (P Q R S : Nat → Int) (n : Nat) (k : Int) : (sqL P Q R S n k).length ≤ 3280 := by
  unfold sqL; split
  · exact canonL_len _
  · simp
theorem sqL_no {P Q R S : Nat → Int} {n : Nat} {k : Int} {e : Ending} {w : World} (h : (okR P Q R S n && (inB k 0 10 && !(k == 0))) = false) (he : e = .returned (.slice none 0 0)) : LRes (sqL P Q R S n k) e w := by
  have e0 : sqL P Q R S n k = [] := by unfold sqL; rw [if_neg (by simp [h])]
  rw [e0]
  exact ⟨none, 0, he, RectsL.nil _ _ _⟩
theorem sqL_yes {P Q R S : Nat → Int} {n : Nat} {k : Int} {B0 h c : Nat} {e : Ending} {w : World} (hok : (okR P Q R S n && (inB k 0 10 && !(k == 0))) = true) (hI : RecIs B0 w h (canonL (sqF (covF P Q R S n) k.toNat 6400))) (he : e = .returned (.slice (some ⟨h, 0, none⟩) (canonL (sqF (covF P Q R S n) k.toNat 6400)).length c)) : LRes (sqL P Q R S n k) e w := by
  have e0 : sqL P Q R S n k = canonL (sqF (covF P Q R S n) k.toNat 6400) := by unfold sqL; rw [if_pos hok]
  rw [e0]
  exact ⟨_, c, he, hI.rects⟩

set_option maxHeartbeats 16000000 in
set_option maxRecDepth 100000 in
theorem specSquareCover_all (m : Option Addr) (n cap : Nat) (P Q R S : Nat → Int) (k : Int) (w : World) (hn : n ≤ 1048576) (hR : RectsIs w.heap.size w m n P Q R S) :
    Calls Tryd.prog 57 #[.slice m n cap, .int .i64 k] w fun e w' => LRes (sqL P Q R S n k) e w' ∧ Below w.heap.size w w' := by
  have HR := Lib.hid hR
  clear hR
  cases hok : okR P Q R S n with
  | false =>
    have HN := Lib.hid fun e w => sqL_no (P := P) (Q := Q) (R := R) (S := S) (n := n) (k := k) (e := e) (w := w) (by rw [hok]; rfl)
    go_enter Tryd.func57, Tryd.ntmps57
    go_wp2_with fail
    refine (l03Ok_any m n cap P Q R S _ hn HR.out).mono ?_
    rintro e w1 ⟨rfl, bw1⟩
    rw [hok]
    go_wp2_with fail
    go_ret
    exact ⟨HN.out _ _ rfl, bw1⟩
  | true =>
  cases hk : inB k 0 10 with
  | false =>
    have HN := Lib.hid fun e w => sqL_no (P := P) (Q := Q) (R := R) (S := S) (n := n) (k := k) (e := e) (w := w) (by rw [hok, hk]; rfl)
    go_enter Tryd.func57, Tryd.ntmps57
    go_wp2_with fail
    refine (l03Ok_any m n cap P Q R S _ hn HR.out).mono ?_
    rintro e w1 ⟨rfl, bw1⟩
    rw [hok]
    go_wp2_with fail
    refine (l05Size_any _ _).mono ?_
    rintro e w2 ⟨rfl, rfl⟩
    rw [hk]
    go_wp2_with fail
    go_ret
    exact ⟨HN.out _ _ rfl, bw1⟩
  | true =>
  cases hz : (k == 0) with
  | true =>
    have HN := Lib.hid fun e w => sqL_no (P := P) (Q := Q) (R := R) (S := S) (n := n) (k := k) (e := e) (w := w) (by rw [hok, hk, hz]; rfl)
    go_enter Tryd.func57, Tryd.ntmps57
    go_wp2_with fail
    refine (l03Ok_any m n cap P Q R S _ hn HR.out).mono ?_
    rintro e w1 ⟨rfl, bw1⟩
    rw [hok]
    go_wp2_with fail
    refine (l05Size_any _ _).mono ?_
    rintro e w2 ⟨rfl, rfl⟩
    rw [hk]
    go_wp2_with fail
    go_ret
    exact ⟨HN.out _ _ rfl, bw1⟩
  | false =>
    obtain ⟨k0, hk0⟩ : ∃ k0 : Nat, k = (k0 : Int) := ⟨k.toNat, by have := inB_t hk; omega⟩
    subst hk0
    have hk10 : k0 ≤ 10 := by have := inB_t hk; omega
    have hkp : 0 < k0 := by simp at hz; omega
    have HY := Lib.hid fun h c e (w w0 : World) => sqL_yes (P := P) (Q := Q) (R := R) (S := S) (n := n) (k := (k0 : Int)) (B0 := w0.heap.size) (h := h) (c := c) (e := e) (w := w) (by rw [hok, hk, hz]; rfl)
    rw [Int.toNat_natCast] at HY
    have HV := Lib.hid (okR_all hok)
    have HZ := Lib.hid hz
    obtain ⟨f, hf⟩ : ∃ f, f = covF P Q R S n := ⟨_, rfl⟩
    rw [← hf] at HY
    have HFF := Lib.hid hf
    clear hf
    go_enter Tryd.func57, Tryd.ntmps57
    go_wp2_with fail
    refine (l03Ok_any m n cap P Q R S _ hn HR.out).mono ?_
    rintro e w1 ⟨rfl, bw1⟩
    rw [hok]
    go_wp2_with fail
    refine (l05Size_any _ _).mono ?_
    rintro e w2 ⟨rfl, rfl⟩
    rw [hk]
    clear hok hk
    go_wp2_with fail
    refine (l03Bits_any m n cap P Q R S _ hn (HR.out.ext bw1) HV.out).mono ?_
    rintro e w3 ⟨⟨g, rfl, hg3, hb3⟩, bw3⟩
    rw [← HFF.out] at hb3
    have HF := Lib.hid hb3
    have BC := Lib.hid (Ext.trans bw1 bw3)
    have lg := hb3.lt
    clear hb3 bw1 bw3 hz
    obtain ⟨i0, hi, hz0, hz1, hz2⟩ := info_parts infoB
    go_wp2_with (at_make; refine wpList_make_full _ rfl _ _ 63 rfl w3.heap.size 4 i0 (.bool false) 1 Tryd.underlying63 hi hz0 hz1 .i64 .i64 6400 6400 6400 rfl rfl rfl rfl (by rw [hz2]; omega) (by unfold maxLen; omega) (Nat.le_refl _) ?_; intro w4 own4 grow4)
    have hB1 : Below w3.heap.size w3 w4 := (Below.refl _ _).grown grow4 (Nat.le_refl _) (fun k hk => by cases hk)
    have HF1 := Lib.hid (bits_made own4)
    clear own4 grow4 hi hz0 hz1 hz2
    go_wp2_with fail
    go_loopw [7] (fun s wr => ∃ r : Nat, r ≤ 80 ∧ s = .int .i64 ((r : Int) - 40) ∧ Below w3.heap.size w3 wr ∧ Hid (BitsIs wr w3.heap.size (sqF f k0 (r * 80)))) (fun s _ => (40 - intOf s).toNat)
    case atStart => exact ⟨0, by omega, rfl, hB1, Lib.hid (HF1.out.congr fun j _ => rfl)⟩
    case round =>
      obtain ⟨r, hr, rfl, hW, HG⟩ := hrel
      obtain ⟨y, hy⟩ : ∃ y : Int, y = (r : Int) - 40 := ⟨_, rfl⟩
      have q0 : -40 ≤ y := by omega
      by_cases hlt : r < 80
      · have q1 : y < 40 := by omega
        have q2 : y ≤ 39 := by omega
        rw [← hy]
        have HY2 := Lib.hid hy
        clear hy
        go_wp2_with fail
        go_loopw [8] (fun s wx => ∃ i : Nat, r * 80 ≤ i ∧ i ≤ r * 80 + 80 ∧ s = .int .i64 ((i : Int) - r * 80 - 40) ∧ Below w3.heap.size w3 wx ∧ Hid (BitsIs wx w3.heap.size (sqF f k0 i))) (fun s _ => (40 - intOf s).toNat)
        case atStart => exact ⟨r * 80, by omega, by omega, by go_num, hW, HG⟩
        case round =>
          obtain ⟨i, hi0, hi1, rfl, hX, HH⟩ := hrel
          obtain ⟨x, hx⟩ : ∃ x : Int, x = (i : Int) - r * 80 - 40 := ⟨_, rfl⟩
          have p0 : -40 ≤ x := by omega
          by_cases hil : i < r * 80 + 80
          · have p1 : x < 40 := by omega
            have p2 : x ≤ 39 := by omega
            have hix : ((i % 80 : Nat) : Int) - 40 = x := by omega
            have hiy : ((i / 80 : Nat) : Int) - 40 = y := by have := HY2.out; omega
            have hcb : cornB f k0 i = fullN f k0 x y k0 := by unfold cornB; rw [hix, hiy]
            have HIX := Lib.hid hix
            have HIY := Lib.hid hiy
            rw [← hx]
            have HX := Lib.hid hx
            have HFw := Lib.hid (HF.out.below hX)
            clear hx hix hiy
            cases hc : fullN f k0 x y k0 with
            | false =>
              have HN := Lib.hid (HH.out.congr fun j _ => sq_no f k0 i j (hcb.trans hc))
              have HCC := Lib.hid hc
              clear hc hcb
              go_wp2_with fail
              refine (l05Full_any g 6400 f k0 x y hk10 ⟨by omega, by omega⟩ ⟨by omega, by omega⟩ _ HFw.out).mono ?_
              rintro e wz ⟨rfl, rfl⟩
              rw [HCC.out]
              go_wp2_with fail
              go_roundw
              case rel => exact ⟨i + 1, by omega, by omega, by rw [HX.out]; go_num, hX, HN⟩
              case measure => simp [intOf]; omega
            | true =>
              have HCO := Lib.hid (hcb.trans hc)
              obtain ⟨n1, n2⟩ := corn_in hkp (hcb.trans hc)
              have HCC := Lib.hid hc
              have s1 : x + (k0 : Int) ≤ 40 := by have := HIX.out; omega
              have s2 : y + (k0 : Int) ≤ 40 := by have := HIY.out; omega
              clear hc hcb
              go_wp2_with fail
              refine (l05Full_any g 6400 f k0 x y hk10 ⟨by omega, by omega⟩ ⟨by omega, by omega⟩ _ HFw.out).mono ?_
              rintro e wz ⟨rfl, rfl⟩
              rw [HCC.out]
              go_wp2_with fail
              go_loopw [9] (fun s wv => ∃ t : Nat, t ≤ k0 ∧ s = .int .i64 (y + (t : Int)) ∧ Below w3.heap.size w3 wv ∧ Hid (BitsIs wv w3.heap.size (pnF (sqF f k0 i) k0 i t 0))) (fun s _ => (y + k0 - intOf s).toNat)
              case atStart => exact ⟨0, by omega, by go_num, hX, Lib.hid (HH.out.congr fun j _ => pn_start _ k0 i j)⟩
              case round =>
                obtain ⟨t, ht, rfl, hV, HVV⟩ := hrel
                obtain ⟨v, hv⟩ : ∃ v : Int, v = y + (t : Int) := ⟨_, rfl⟩
                have v0 : -40 ≤ v := by omega
                have v1 : v ≤ 49 := by omega
                rw [← hv]
                have HVE := Lib.hid hv
                by_cases htl : t < k0
                · have g1 : v < y + (k0 : Int) := by omega
                  have g2 : v ≤ 39 := by omega
                  clear hv
                  go_wp2_with fail
                  go_loopw [10] (fun s wu => ∃ u : Nat, u ≤ k0 ∧ s = .int .i64 (x + (u : Int)) ∧ Below w3.heap.size w3 wu ∧ Hid (BitsIs wu w3.heap.size (pnF (sqF f k0 i) k0 i t u))) (fun s _ => (x + k0 - intOf s).toNat)
                  case atStart => exact ⟨0, by omega, by go_num, hV, HVV⟩
                  case round =>
                    obtain ⟨u, hu, rfl, hU, HUU⟩ := hrel
                    obtain ⟨z, hz⟩ : ∃ z : Int, z = x + (u : Int) := ⟨_, rfl⟩
                    have z0 : -40 ≤ z := by omega
                    have z1 : z ≤ 49 := by omega
                    rw [← hz]
                    have HZE := Lib.hid hz
                    by_cases hul : u < k0
                    · have o1 : z < x + (k0 : Int) := by omega
                      have o2 : z ≤ 39 := by omega
                      clear hz
                      obtain ⟨j0, hj0⟩ : ∃ j0, j0 = (i / 80 + t) * 80 + (i % 80 + u) := ⟨_, rfl⟩
                      have hj6 : j0 < 6400 := by omega
                      have hci : cIx z v = j0 := by
                        unfold cIx
                        have := HIX.out
                        have := HIY.out
                        have := HZE.out
                        have := HVE.out
                        omega
                      have HCI := Lib.hid hci
                      have c1 := (HUU.out j0 hj6).1
                      have f1 := (HUU.out j0 hj6).2
                      have r0 : (0 : Int) ≤ (j0 : Int) := by omega
                      have r1 : (j0 : Int) < 6400 := by omega
                      have HN := Lib.hid ((HUU.out.set hj6).congr fun j _ => (by rw [hj0]; exact pn_step _ k0 i t u j (by omega) : (pnF (sqF f k0 i) k0 i t u j || decide (j = j0)) = pnF (sqF f k0 i) k0 i t (u + 1) j))
                      clear hci hj0
                      go_wp2_with (first | (go_at_call 102; refine (l03At_any z v _ (by omega) (by omega) (by omega) (by omega)).mono ?_; rintro e wz ⟨rfl, rfl⟩; rw [HCI.out]))
                      go_roundw
                      case rel => exact ⟨u + 1, by omega, by rw [HZE.out]; go_num, hU.setCell (Nat.le_refl _) _, HN⟩
                      case measure => have := HZE.out; simp [intOf]; omega
                    · have o1 : ¬ z < x + (k0 : Int) := by omega
                      obtain rfl : u = k0 := by omega
                      clear hz
                      have HN := Lib.hid (HUU.out.congr fun j _ => pn_row _ u i t j)
                      go_wp2_with fail
                      go_roundw
                      case rel => exact ⟨t + 1, by omega, by rw [HVE.out]; go_num, hU, HN⟩
                      case measure => have := HVE.out; simp [intOf]; omega
                · have g1 : ¬ v < y + (k0 : Int) := by omega
                  obtain rfl : t = k0 := by omega
                  clear hv
                  have HN := Lib.hid (HVV.out.congr fun j _ => pn_end f t i j HCO.out)
                  go_wp2_with fail
                  go_roundw
                  case rel => exact ⟨i + 1, by omega, by omega, by rw [HX.out]; go_num, hV, HN⟩
                  case measure => simp [intOf]; omega
          · have p1 : ¬ x < 40 := by omega
            obtain rfl : i = r * 80 + 80 := by omega
            rw [← hx]
            clear hx
            go_wp2_with fail
            go_roundw
            case rel => exact ⟨r + 1, by omega, by rw [HY2.out]; go_num, hX, Lib.hid (by rw [show (r + 1) * 80 = r * 80 + 80 by omega]; exact HH.out)⟩
            case measure => simp [intOf]; omega
      · have q1 : ¬ y < 40 := by omega
        obtain rfl : r = 80 := by omega
        rw [← hy]
        clear hy
        go_wp2_with fail
        refine (l03Canon_any w3.heap.size 6400 _ _ HG.out).mono ?_
        rintro e w9 ⟨⟨h, c, rfl, hI⟩, bw9⟩
        have HI := Lib.hid hI
        clear hI
        go_wp2_with fail
        go_ret
        exact ⟨HY.out h c _ _ _ HI.out rfl, Ext.trans (Ext.trans BC.out hW) bw9⟩
end Go.Proofs.YtgccnongfdbalaaDoor

namespace Go.Proofs.YtgccnongfdbalaaDoor
open Go.RowKit Go.Shelf
set_option linter.unusedVariables false
set_option linter.unusedSimpArgs false

set_option maxRecDepth 100000 in
set_option maxHeartbeats 8000000 in
theorem clipRegionC_any (m : Option Addr) (n cap : Nat) (P Q R S : Nat → Int) (p q r s : Int) (w : World) (hn : n ≤ 1048576) (hcap : n ≤ cap) (hD : EnvW w) (hR : RectsIs w.heap.size w m n P Q R S) :
    Calls Tryd.prog 95 #[.slice m n cap, .agg #[.int .i64 p, .int .i64 q, .int .i64 r, .int .i64 s]] w fun e w' => LOwnC w.heap.size (clL P Q R S n p q r s) e w' ∧ Below w.heap.size w w' := by
  obtain ⟨i0, hi, hz0, hz1, hz2⟩ := info_parts Tryd.infoR
  cases hok : okR P Q R S n with
  | false =>
    have e0 : clL P Q R S n p q r s = [] := by unfold clL; rw [hok]; rfl
    rw [e0]
    clear e0
    go_enter Tryd.func95, Tryd.ntmps95
    go_wp2_with fail
    go_call (isRegion_any m n cap P Q R S _ hn hcap (hD.ext (by (repeat (first | (with_reducible exact Below.refl _ _) | (with_reducible refine Ext.drewN ?_ _) | (with_reducible refine Below.drew ?_) | (with_reducible refine Ext.alloc ?_ _) | (with_reducible refine Ext.setCell ?_ (by simp; try omega) _) | (with_reducible refine Ext.trans ?_ (by assumption)) | (with_reducible assumption) | exact Below.refl _ _)))) (hR.ext (by (repeat (first | (with_reducible exact Below.refl _ _) | (with_reducible refine Ext.drewN ?_ _) | (with_reducible refine Below.drew ?_) | (with_reducible refine Ext.alloc ?_ _) | (with_reducible refine Ext.setCell ?_ (by simp; try omega) _) | (with_reducible refine Ext.trans ?_ (by assumption)) | (with_reducible assumption) | exact Below.refl _ _))))) as e w1 ⟨rfl, bw1⟩
    obtain ⟨sw1, zw1, cw1, fw1⟩ := bcell bw1
    try simp only [World.size_alloc, World.size_setCell, World.size_drew] at sw1
    try have lw1_w_0 : w.heap.size < w1.heap.size := by omega
    try have lw1_w_1 : w.heap.size + 1 < w1.heap.size := by omega
    try have lw1_w_2 : w.heap.size + 1 + 1 < w1.heap.size := by omega
    try have lw1_w_3 : w.heap.size + 1 + 1 + 1 < w1.heap.size := by omega
    try have lw1_w_4 : w.heap.size + 1 + 1 + 1 + 1 < w1.heap.size := by omega
    try have lw1_w_5 : w.heap.size + 1 + 1 + 1 + 1 + 1 < w1.heap.size := by omega
    try have lw1_w_6 : w.heap.size + 1 + 1 + 1 + 1 + 1 + 1 < w1.heap.size := by omega
    rw [hok]
    go_wp2_with fail
    exact bodyPost_ret (v := .slice none 0 0) (by simp [*, results, Tryd.results95, go_sem]) rfl ⟨⟨none, 0, rfl, Nat.le_refl _, .inl rfl⟩, by (repeat (first | (with_reducible exact Below.refl _ _) | (with_reducible refine Ext.drewN ?_ _) | (with_reducible refine Below.drew ?_) | (with_reducible refine Ext.alloc ?_ _) | (with_reducible refine Ext.setCell ?_ (by simp; try omega) _) | (with_reducible refine Ext.trans ?_ (by assumption)) | (with_reducible assumption) | exact Below.refl _ _))⟩
  | true =>
    cases hb : rvB p q r s with
    | false =>
      have e0 : clL P Q R S n p q r s = [] := by unfold clL; rw [hok, hb]; rfl
      rw [e0]
      clear e0
      go_enter Tryd.func95, Tryd.ntmps95
      go_wp2_with fail
      go_call (isRegion_any m n cap P Q R S _ hn hcap (hD.ext (by (repeat (first | (with_reducible exact Below.refl _ _) | (with_reducible refine Ext.drewN ?_ _) | (with_reducible refine Below.drew ?_) | (with_reducible refine Ext.alloc ?_ _) | (with_reducible refine Ext.setCell ?_ (by simp; try omega) _) | (with_reducible refine Ext.trans ?_ (by assumption)) | (with_reducible assumption) | exact Below.refl _ _)))) (hR.ext (by (repeat (first | (with_reducible exact Below.refl _ _) | (with_reducible refine Ext.drewN ?_ _) | (with_reducible refine Below.drew ?_) | (with_reducible refine Ext.alloc ?_ _) | (with_reducible refine Ext.setCell ?_ (by simp; try omega) _) | (with_reducible refine Ext.trans ?_ (by assumption)) | (with_reducible assumption) | exact Below.refl _ _))))) as e w1 ⟨rfl, bw1⟩
      obtain ⟨sw1, zw1, cw1, fw1⟩ := bcell bw1
      try simp only [World.size_alloc, World.size_setCell, World.size_drew] at sw1
      try have lw1_w_0 : w.heap.size < w1.heap.size := by omega
      try have lw1_w_1 : w.heap.size + 1 < w1.heap.size := by omega
      try have lw1_w_2 : w.heap.size + 1 + 1 < w1.heap.size := by omega
      try have lw1_w_3 : w.heap.size + 1 + 1 + 1 < w1.heap.size := by omega
      try have lw1_w_4 : w.heap.size + 1 + 1 + 1 + 1 < w1.heap.size := by omega
      try have lw1_w_5 : w.heap.size + 1 + 1 + 1 + 1 + 1 < w1.heap.size := by omega
      try have lw1_w_6 : w.heap.size + 1 + 1 + 1 + 1 + 1 + 1 < w1.heap.size := by omega
      rw [hok]
      go_wp2_with fail
      go_call (implValidRect_any _ _ _ _ _ (hD.chip.ext (by (repeat (first | (with_reducible exact Below.refl _ _) | (with_reducible refine Ext.drewN ?_ _) | (with_reducible refine Below.drew ?_) | (with_reducible refine Ext.alloc ?_ _) | (with_reducible refine Ext.setCell ?_ (by simp; try omega) _) | (with_reducible refine Ext.trans ?_ (by assumption)) | (with_reducible assumption) | exact Below.refl _ _))))) as e w2 ⟨rfl, bw2⟩
      obtain ⟨sw2, zw2, cw2, fw2⟩ := bcell bw2
      try simp only [World.size_alloc, World.size_setCell, World.size_drew] at sw2
      try have lw2_w_0 : w.heap.size < w2.heap.size := by omega
      try have lw2_w_1 : w.heap.size + 1 < w2.heap.size := by omega
      try have lw2_w_2 : w.heap.size + 1 + 1 < w2.heap.size := by omega
      try have lw2_w_3 : w.heap.size + 1 + 1 + 1 < w2.heap.size := by omega
      try have lw2_w_4 : w.heap.size + 1 + 1 + 1 + 1 < w2.heap.size := by omega
      try have lw2_w_5 : w.heap.size + 1 + 1 + 1 + 1 + 1 < w2.heap.size := by omega
      try have lw2_w_6 : w.heap.size + 1 + 1 + 1 + 1 + 1 + 1 < w2.heap.size := by omega
      try have lw2_w1_0 : w1.heap.size < w2.heap.size := by omega
      try have lw2_w1_1 : w1.heap.size + 1 < w2.heap.size := by omega
      try have lw2_w1_2 : w1.heap.size + 1 + 1 < w2.heap.size := by omega
      try have lw2_w1_3 : w1.heap.size + 1 + 1 + 1 < w2.heap.size := by omega
      try have lw2_w1_4 : w1.heap.size + 1 + 1 + 1 + 1 < w2.heap.size := by omega
      try have lw2_w1_5 : w1.heap.size + 1 + 1 + 1 + 1 + 1 < w2.heap.size := by omega
      try have lw2_w1_6 : w1.heap.size + 1 + 1 + 1 + 1 + 1 + 1 < w2.heap.size := by omega
      rw [hb]
      go_wp2_with fail
      exact bodyPost_ret (v := .slice none 0 0) (by simp [*, results, Tryd.results95, go_sem]) rfl ⟨⟨none, 0, rfl, Nat.le_refl _, .inl rfl⟩, by (repeat (first | (with_reducible exact Below.refl _ _) | (with_reducible refine Ext.drewN ?_ _) | (with_reducible refine Below.drew ?_) | (with_reducible refine Ext.alloc ?_ _) | (with_reducible refine Ext.setCell ?_ (by simp; try omega) _) | (with_reducible refine Ext.trans ?_ (by assumption)) | (with_reducible assumption) | exact Below.refl _ _))⟩
    | true =>
      have hlen : n ≤ 3200 := by
        have h := canonL_len' (covF P Q R S n)
        rw [((okR_iff P Q R S n).1 hok).2, listR_len] at h
        exact h
      have HRO := Lib.hid (ixL_ro hok hb hlen)
      go_enter Tryd.func95, Tryd.ntmps95
      go_wp2_with fail
      go_call (isRegion_any m n cap P Q R S _ hn hcap (hD.ext (by (repeat (first | (with_reducible exact Below.refl _ _) | (with_reducible refine Ext.drewN ?_ _) | (with_reducible refine Below.drew ?_) | (with_reducible refine Ext.alloc ?_ _) | (with_reducible refine Ext.setCell ?_ (by simp; try omega) _) | (with_reducible refine Ext.trans ?_ (by assumption)) | (with_reducible assumption) | exact Below.refl _ _)))) (hR.ext (by (repeat (first | (with_reducible exact Below.refl _ _) | (with_reducible refine Ext.drewN ?_ _) | (with_reducible refine Below.drew ?_) | (with_reducible refine Ext.alloc ?_ _) | (with_reducible refine Ext.setCell ?_ (by simp; try omega) _) | (with_reducible refine Ext.trans ?_ (by assumption)) | (with_reducible assumption) | exact Below.refl _ _))))) as e w1 ⟨rfl, bw1⟩
      obtain ⟨sw1, zw1, cw1, fw1⟩ := bcell bw1
      try simp only [World.size_alloc, World.size_setCell, World.size_drew] at sw1
      try have lw1_w_0 : w.heap.size < w1.heap.size := by omega
      try have lw1_w_1 : w.heap.size + 1 < w1.heap.size := by omega
      try have lw1_w_2 : w.heap.size + 1 + 1 < w1.heap.size := by omega
      try have lw1_w_3 : w.heap.size + 1 + 1 + 1 < w1.heap.size := by omega
      try have lw1_w_4 : w.heap.size + 1 + 1 + 1 + 1 < w1.heap.size := by omega
      try have lw1_w_5 : w.heap.size + 1 + 1 + 1 + 1 + 1 < w1.heap.size := by omega
      try have lw1_w_6 : w.heap.size + 1 + 1 + 1 + 1 + 1 + 1 < w1.heap.size := by omega
      rw [hok]
      go_wp2_with fail
      go_call (implValidRect_any _ _ _ _ _ (hD.chip.ext (by (repeat (first | (with_reducible exact Below.refl _ _) | (with_reducible refine Ext.drewN ?_ _) | (with_reducible refine Below.drew ?_) | (with_reducible refine Ext.alloc ?_ _) | (with_reducible refine Ext.setCell ?_ (by simp; try omega) _) | (with_reducible refine Ext.trans ?_ (by assumption)) | (with_reducible assumption) | exact Below.refl _ _))))) as e w2 ⟨rfl, bw2⟩
      obtain ⟨sw2, zw2, cw2, fw2⟩ := bcell bw2
      try simp only [World.size_alloc, World.size_setCell, World.size_drew] at sw2
      try have lw2_w_0 : w.heap.size < w2.heap.size := by omega
      try have lw2_w_1 : w.heap.size + 1 < w2.heap.size := by omega
      try have lw2_w_2 : w.heap.size + 1 + 1 < w2.heap.size := by omega
      try have lw2_w_3 : w.heap.size + 1 + 1 + 1 < w2.heap.size := by omega
      try have lw2_w_4 : w.heap.size + 1 + 1 + 1 + 1 < w2.heap.size := by omega
      try have lw2_w_5 : w.heap.size + 1 + 1 + 1 + 1 + 1 < w2.heap.size := by omega
      try have lw2_w_6 : w.heap.size + 1 + 1 + 1 + 1 + 1 + 1 < w2.heap.size := by omega
      try have lw2_w1_0 : w1.heap.size < w2.heap.size := by omega
      try have lw2_w1_1 : w1.heap.size + 1 < w2.heap.size := by omega
      try have lw2_w1_2 : w1.heap.size + 1 + 1 < w2.heap.size := by omega
      try have lw2_w1_3 : w1.heap.size + 1 + 1 + 1 < w2.heap.size := by omega
      try have lw2_w1_4 : w1.heap.size + 1 + 1 + 1 + 1 < w2.heap.size := by omega
      try have lw2_w1_5 : w1.heap.size + 1 + 1 + 1 + 1 + 1 < w2.heap.size := by omega
      try have lw2_w1_6 : w1.heap.size + 1 + 1 + 1 + 1 + 1 + 1 < w2.heap.size := by omega
      rw [hb]
      go_wp2_with fail
      have BX0 : Hid (Box4 w2 w.heap.size p q r s) := Lib.hid ⟨keepC bw2 (keepC bw1 (by simp [go_sem])), keepC bw2 (keepC bw1 (by simp [go_sem])), keepC bw2 (keepC bw1 (by simp [go_sem])), keepC bw2 (keepC bw1 (by simp [go_sem]))⟩
      have B2 : Below w.heap.size w w2 := by (repeat (first | (with_reducible exact Below.refl _ _) | (with_reducible refine Ext.drewN ?_ _) | (with_reducible refine Below.drew ?_) | (with_reducible refine Ext.alloc ?_ _) | (with_reducible refine Ext.setCell ?_ (by simp; try omega) _) | (with_reducible refine Ext.trans ?_ (by assumption)) | (with_reducible assumption) | exact Below.refl _ _))
      have l2 : w.heap.size < w2.heap.size := by have h8 := bw1.size; have h9 := bw2.size; simp at h8; omega
      clear bw1 bw2 zw1 cw1 fw1 zw2 cw2 fw2
      go_loopw [5, 22] (fun v s9 wr => ∃ i : Nat, i ≤ n ∧ s9 = .int .i64 (i : Nat) ∧ Hid (wr.ownsRow (w.heap.size + 1) 29 4 v (ixL P Q R S p q r s i).length (recCells (ixL P Q R S p q r s i))) ∧ Below w.heap.size w wr ∧ w.heap.size < wr.heap.size ∧ Hid (Box4 wr w.heap.size p q r s)) (fun _ s9 _ => n - (intOf s9).toNat)
      case atStart => exact ⟨0, by omega, rfl, Lib.hid (World.ownsRow_nil _ _ _ _), B2, l2, BX0⟩
      case round =>
        obtain ⟨i, hil, rfl, HO, hW, hsz, HBX⟩ := hrel
        rename_i v5 _
        by_cases hlt : i < n
        · obtain ⟨b1, o1, rfl, hb1, c0, c1, c2, c3⟩ := hR.below hW i hlt
          have q1 : ((i : Nat) : Int) < (n : Int) := by omega
          have q0 : (0 : Int) ≤ ((i : Nat) : Int) := by omega
          obtain ⟨x0, x1, x2, x3⟩ := HBX.out
          have hll := ixL_len P Q R S p q r s i
          cases ho : ovB (P i) (Q i) (R i) (S i) p q r s with
          | false =>
            have HS := Lib.hid (show ixL P Q R S p q r s (i + 1) = ixL P Q R S p q r s i by rw [ixL, ho]; simp)
            go_wp2_with (first | (go_at_call 132; refine (implIntersectRects_any _ _ _ _ _ _ _ _ _ (hD.chip.ext (by (repeat (first | (with_reducible exact Below.refl _ _) | (with_reducible refine Ext.drewN ?_ _) | (with_reducible refine Below.drew ?_) | (with_reducible refine Ext.alloc ?_ _) | (with_reducible refine Ext.setCell ?_ (by simp; try omega) _) | (with_reducible refine Ext.trans ?_ (by assumption)) | (with_reducible assumption) | exact Below.refl _ _))))).mono ?_; rintro e v1 ⟨rfl, bv1⟩; rw [ixV_no ho]))
            have bq : Below wr.heap.size wr v1 := by (repeat (first | (with_reducible exact Below.refl _ _) | (with_reducible refine Ext.drewN ?_ _) | (with_reducible refine Below.drew ?_) | (with_reducible refine Ext.alloc ?_ _) | (with_reducible refine Ext.setCell ?_ (by simp; try omega) _) | (with_reducible refine Ext.trans ?_ (by assumption)) | (with_reducible assumption) | exact Below.refl _ _))
            have bq2 := bq.alloc bq.size (.cells #[.int .i64 0, .int .i64 0, .int .i64 0, .int .i64 0] 29)
            go_roundw
            case rel => exact ⟨i + 1, by omega, by go_num, Lib.hid (by rw [HS.out]; exact own_keep HO.out bq2), hW.trans (bq2.mono (by omega)), by have := bq2.size; omega, Lib.hid (HBX.out.keep bq2 hsz)⟩
            case measure => simp [intOf]; omega
          | true =>
            have HS := Lib.hid (show ixL P Q R S p q r s (i + 1) = ixL P Q R S p q r s i ++ [R4.mk (hi2 (P i) p) (hi2 (Q i) q) (lo2 (R i) r) (lo2 (S i) s)] by rw [ixL, if_pos ho])
            have HIX := Lib.hid (ixV_yes ho)
            revert HS HIX
            generalize hi2 (P i) p = v0
            generalize hi2 (Q i) q = v1
            generalize lo2 (R i) r = v2
            generalize lo2 (S i) s = v3
            intro HS HIX
            go_upto_region 9 with (first | (go_at_call 132; refine (implIntersectRects_any _ _ _ _ _ _ _ _ _ (hD.chip.ext (by (repeat (first | (with_reducible exact Below.refl _ _) | (with_reducible refine Ext.drewN ?_ _) | (with_reducible refine Below.drew ?_) | (with_reducible refine Ext.alloc ?_ _) | (with_reducible refine Ext.setCell ?_ (by simp; try omega) _) | (with_reducible refine Ext.trans ?_ (by assumption)) | (with_reducible assumption) | exact Below.refl _ _))))).mono ?_; rintro e u1 ⟨rfl, bu1⟩; rw [HIX.out]))
            have bq : Below wr.heap.size wr u1 := by (repeat (first | (with_reducible exact Below.refl _ _) | (with_reducible refine Ext.drewN ?_ _) | (with_reducible refine Below.drew ?_) | (with_reducible refine Ext.alloc ?_ _) | (with_reducible refine Ext.setCell ?_ (by simp; try omega) _) | (with_reducible refine Ext.trans ?_ (by assumption)) | (with_reducible assumption) | exact Below.refl _ _))
            obtain ⟨wz, hwz⟩ : ∃ wz, wz = u1.alloc (.cells #[.int .i64 v0, .int .i64 v1, .int .i64 v2, .int .i64 v3] 29) := ⟨_, rfl⟩
            have bz : Below wr.heap.size wr wz := by rw [hwz]; exact bq.alloc bq.size _
            have m0 : wz.cell? ⟨u1.heap.size, 0, none⟩ = some (.int .i64 v0) := by rw [hwz]; simp [go_sem]
            have m1 : wz.cell? ⟨u1.heap.size, 1, none⟩ = some (.int .i64 v1) := by rw [hwz]; simp [go_sem]
            have m2 : wz.cell? ⟨u1.heap.size, 2, none⟩ = some (.int .i64 v2) := by rw [hwz]; simp [go_sem]
            have m3 : wz.cell? ⟨u1.heap.size, 3, none⟩ = some (.int .i64 v3) := by rw [hwz]; simp [go_sem]
            have O2 := Lib.hid (own_keep HO.out bz)
            have X2 := Lib.hid (HBX.out.keep bz hsz)
            have sz := bz.size
            rw [← hwz]
            clear hwz bq bu1 HO HBX x0 x1 x2 x3 c0 c1 c2 c3
            go_wp2_with (at_builtin; refine wpList_append_own _ rfl _ _ 24 rfl (w.heap.size + 1) 29 i0 (.agg #[.int .i64 0, .int .i64 0, .int .i64 0, .int .i64 0]) 4 32 Tryd.underlying24 hi hz0 hz1 hz2 rfl (by decide) _ _ _ rfl (O2.out.alloc _) ⟨wz.heap.size, 0, none⟩ 1 1 [.int .i64 v0, .int .i64 v1, .int .i64 v2, .int .i64 v3] rfl rfl (World.news_of_block (cs := #[.int .i64 v0, .int .i64 v1, .int .i64 v2, .int .i64 v3]) (t := 29) (fr := (0, 0)) (heap_alloc_new wz _)) (by simp [Value.oneCell']) (by unfold maxLen; omega) (by omega) (by simp; omega) ?_; intro v' w4 hown4 hgrow hnil)
            have Bx : Below (w.heap.size + 1) wz w4 := ((Below.refl (w.heap.size + 1) wz).alloc (by omega) _).grown hgrow (by simp; omega) (fun k hk => (O2.out.lt k hk).1)
            have sx := Bx.size
            have O4 : Hid (w4.ownsRow (w.heap.size + 1) 29 4 v' (ixL P Q R S p q r s (i + 1)).length (recCells (ixL P Q R S p q r s (i + 1)))) := Lib.hid (by rw [HS.out, List.length_append, recCells_snoc]; exact hown4)
            clear hown4 hgrow hnil
            go_roundw
            case rel => exact ⟨i + 1, by omega, by go_num, O4, hW.trans ((bz.mono (by omega)).trans (Bx.mono (by omega))), by omega, Lib.hid (X2.out.keep Bx (by omega))⟩
            case measure => simp [intOf]; omega
        · have q1 : ¬ ((i : Nat) : Int) < (n : Int) := by omega
          obtain rfl : n = i := by omega
          have hll := ixL_len P Q R S p q r s n
          obtain ⟨a9, c9, rfl, h9⟩ := ownsL_own HO.out
          have R9 := Lib.hid h9.rects
          have hc9 : Hid ((ixL P Q R S p q r s n).length ≤ c9) := Lib.hid (own_cap HO.out)
          clear h9 HO
          go_wp2_with (first | (go_at_call 21; refine (regionOfC_any a9 _ c9 _ _ _ _ _ (by omega) hc9.out (hD.ext hW) R9.out).mono ?_; rintro e w5 ⟨⟨a5, c5, rfl, k5, h5⟩, bw5⟩; rw [HRO.out] at h5 k5 ⊢; have H5 := Lib.hid h5; clear h5))
          exact bodyPost_ret (v := .slice a5 (clL P Q R S n p q r s).length c5) (by simp [results, Tryd.results95, go_sem]) rfl ⟨⟨a5, c5, rfl, k5, H5.out.mono hW.size⟩, Ext.trans hW bw5⟩
/- REST -/
theorem sqF_t (f : Nat → Bool) (k j : Nat) : ∀ n, sqF f k n j = true ↔ ∃ c, c < n ∧ cornB f k c = true ∧ inSq k c j = true
  | 0 => by simp [sqF]
  | n + 1 => by
    rw [sqF, Bool.or_eq_true, sqF_t f k j n, Bool.and_eq_true]
    constructor
    · rintro (⟨c, h1, h2⟩ | h)
      · exact ⟨c, by omega, h2⟩
      · exact ⟨n, by omega, h⟩
    · rintro ⟨c, h1, h2⟩
      by_cases e : c = n
      · exact .inr (e ▸ h2)
      · exact .inl ⟨c, by omega, h2⟩
theorem corn_t {f : Nat → Bool} {k i : Nat} (hk : 0 < k) (hi : i < 6400) : cornB f k i = true ↔ (shF f 0 (k - 1) i = true ∧ i % 80 + k ≤ 80 ∧ i / 80 + k ≤ 80) := by
  constructor
  · intro h
    obtain ⟨h1, h2⟩ := corn_in hk h
    refine ⟨(shF_t _ _ _ _).2 fun u v a1 a2 a3 a4 a5 a6 => ?_, h1, h2⟩
    unfold cornB at h
    have := (fullN_t _ _ _ _ _).1 h (v - i / 80) (by omega) (u - i % 80) (by omega)
    rw [show (((i % 80 : Nat) : Int) - 40 + ((u - i % 80 : Nat) : Int)) = (u : Int) - 40 by omega, show (((i / 80 : Nat) : Int) - 40 + ((v - i / 80 : Nat) : Int)) = (v : Int) - 40 by omega, hasB_nat f a3 a6] at this
    exact this
  · rintro ⟨h, h1, h2⟩
    unfold cornB
    refine (fullN_t _ _ _ _ _).2 fun v hv u hu => ?_
    rw [show (((i % 80 : Nat) : Int) - 40 + (u : Int)) = ((i % 80 + u : Nat) : Int) - 40 by omega, show (((i / 80 : Nat) : Int) - 40 + (v : Int)) = ((i / 80 + v : Nat) : Int) - 40 by omega, hasB_nat f (by omega) (by omega)]
    exact (shF_t _ _ _ _).1 h (i % 80 + u) (i / 80 + v) (by omega) (by omega) (by omega) (by omega) (by omega) (by omega)
/-- The corners clipped, seen from above: the squares. -/
theorem sq_see {f F : Nat → Bool} {k : Nat} (hk : 0 < k) (h : ∀ i, i < 6400 → (F i = true ↔ cornB f k i = true)) {j : Nat} (hj : j < 6400) : seeF F (k - 1) 0 j = sqF f k 6400 j := by
  rw [Bool.eq_iff_iff, seeF_t, sqF_t]
  unfold inSq
  simp only [Bool.and_eq_true, decide_eq_true_eq]
  constructor
  · rintro ⟨u, v, a1, a2, a3, a4, a5, a6, a7⟩
    refine ⟨v * 80 + u, by omega, (h _ (by omega)).1 a7, ?_⟩
    rw [show (v * 80 + u) % 80 = u by omega, show (v * 80 + u) / 80 = v by omega]
    omega
  · rintro ⟨c, hc, hcb, h1, h2⟩
    refine ⟨c % 80, c / 80, by omega, by omega, by omega, by omega, by omega, by omega, ?_⟩
    rw [show c / 80 * 80 + c % 80 = c by omega]
    exact (h c hc).2 hcb
theorem sqV_no {P Q R S : Nat → Int} {n : Nat} {k : Int} (h : (okR P Q R S n && (inB k 0 10 && !(k == 0))) = false) : sqL P Q R S n k = [] := by unfold sqL; rw [if_neg (by simp [h])]
theorem sqV_yes {P Q R S : Nat → Int} {n : Nat} {k : Int} (h : (okR P Q R S n && (inB k 0 10 && !(k == 0))) = true) : sqL P Q R S n k = canonL (sqF (covF P Q R S n) k.toNat 6400) := by unfold sqL; rw [if_pos h]
set_option maxHeartbeats 4000000 in
theorem squareCoverC_any (m : Option Addr) (n cap : Nat) (P Q R S : Nat → Int) (k : Int) (w : World) (hn : n ≤ 1048576) (hcap : n ≤ cap) (hD : EnvW w) (hR : RectsIs w.heap.size w m n P Q R S) :
    Calls Tryd.prog 45 #[.slice m n cap, .int .i64 k] w fun e w' => LOwnC w.heap.size (sqL P Q R S n k) e w' ∧ Below w.heap.size w w' := by
  have HR := Lib.hid hR
  have HD := Lib.hid hD
  clear hR hD
  cases hb : (okR P Q R S n && inB k 0 10) with
  | false =>
    rw [sqV_no (by rw [← Bool.and_assoc, hb]; rfl)]
    go_enter Tryd.func45, Tryd.ntmps45
    go_wp2_with fail
    refine (canBeSized_any m n cap P Q R S k _ hn hcap (HD.out.ext (by (repeat (first | (with_reducible exact Below.refl _ _) | (with_reducible refine Ext.drewN ?_ _) | (with_reducible refine Below.drew ?_) | (with_reducible refine Ext.alloc ?_ _) | (with_reducible refine Ext.setCell ?_ (by simp; try omega) _) | (with_reducible refine Ext.trans ?_ (by assumption)) | (with_reducible assumption) | exact Below.refl _ _)))) (HR.out.ext (by (repeat (first | (with_reducible exact Below.refl _ _) | (with_reducible refine Ext.drewN ?_ _) | (with_reducible refine Below.drew ?_) | (with_reducible refine Ext.alloc ?_ _) | (with_reducible refine Ext.setCell ?_ (by simp; try omega) _) | (with_reducible refine Ext.trans ?_ (by assumption)) | (with_reducible assumption) | exact Below.refl _ _))))).mono ?_
    rintro e w1 ⟨rfl, bw1⟩
    rw [hb]
    have B1 : Below w.heap.size w w1 := by (repeat (first | (with_reducible exact Below.refl _ _) | (with_reducible refine Ext.drewN ?_ _) | (with_reducible refine Below.drew ?_) | (with_reducible refine Ext.alloc ?_ _) | (with_reducible refine Ext.setCell ?_ (by simp; try omega) _) | (with_reducible refine Ext.trans ?_ (by assumption)) | (with_reducible assumption) | exact Below.refl _ _))
    clear bw1
    go_wp2_with fail
    go_ret
    exact ⟨nilC _ _, B1⟩
  | true =>
    cases hz : (k == 0) with
    | true =>
      rw [sqV_no (by rw [hz]; simp)]
      go_enter Tryd.func45, Tryd.ntmps45
      go_wp2_with fail
      refine (canBeSized_any m n cap P Q R S k _ hn hcap (HD.out.ext (by (repeat (first | (with_reducible exact Below.refl _ _) | (with_reducible refine Ext.drewN ?_ _) | (with_reducible refine Below.drew ?_) | (with_reducible refine Ext.alloc ?_ _) | (with_reducible refine Ext.setCell ?_ (by simp; try omega) _) | (with_reducible refine Ext.trans ?_ (by assumption)) | (with_reducible assumption) | exact Below.refl _ _)))) (HR.out.ext (by (repeat (first | (with_reducible exact Below.refl _ _) | (with_reducible refine Ext.drewN ?_ _) | (with_reducible refine Below.drew ?_) | (with_reducible refine Ext.alloc ?_ _) | (with_reducible refine Ext.setCell ?_ (by simp; try omega) _) | (with_reducible refine Ext.trans ?_ (by assumption)) | (with_reducible assumption) | exact Below.refl _ _))))).mono ?_
      rintro e w1 ⟨rfl, bw1⟩
      rw [hb]
      have B1 : Below w.heap.size w w1 := by (repeat (first | (with_reducible exact Below.refl _ _) | (with_reducible refine Ext.drewN ?_ _) | (with_reducible refine Below.drew ?_) | (with_reducible refine Ext.alloc ?_ _) | (with_reducible refine Ext.setCell ?_ (by simp; try omega) _) | (with_reducible refine Ext.trans ?_ (by assumption)) | (with_reducible assumption) | exact Below.refl _ _))
      clear bw1
      go_wp2_with fail
      go_ret
      exact ⟨nilC _ _, B1⟩
    | false =>
      rw [sqV_yes (by rw [← Bool.and_assoc, hb, hz]; rfl)]
      have HB := Lib.hid hb
      simp only [Bool.and_eq_true] at hb
      obtain ⟨hok, hk⟩ := hb
      obtain ⟨j, rfl, hj, -⟩ := inB_nat hk
      have hjp : 0 < j := by simp at hz; omega
      obtain ⟨t, ht⟩ : ∃ t, j = t + 1 := ⟨j - 1, by omega⟩
      have hjt : j - 1 = t := by omega
      obtain ⟨f, hf⟩ : ∃ f, f = covF P Q R S n := ⟨_, rfl⟩
      rw [Int.toNat_natCast, ← hf]
      obtain ⟨L, hL⟩ : ∃ L, L = canonL (sqF f j 6400) := ⟨_, rfl⟩
      rw [← hL]
      have HL := Lib.hid hL
      obtain ⟨l1, hl1⟩ : ∃ l, l = canonL (shF f 0 t) := ⟨_, rfl⟩
      have hn1 : l1.length ≤ 3280 := by rw [hl1]; exact canonL_len _
      have ho1 : okR (pA l1) (pB l1) (pC l1) (pD l1) l1.length = true := by rw [hl1]; exact okR_canonL _
      obtain ⟨e9, he9⟩ : ∃ e : Int, e = 40 - (j : Int) + 1 := ⟨_, rfl⟩
      have hrv : rvB (-40) (-40) e9 e9 = true := rvB_mk (by omega)
      obtain ⟨l2, hl2⟩ : ∃ l, l = clL (pA l1) (pB l1) (pC l1) (pD l1) l1.length (-40) (-40) e9 e9 := ⟨_, rfl⟩
      have hn2 : l2.length ≤ 3280 := by rw [hl2]; exact clL_len _ _ _ _ _ _ _ _ _
      have hc2 : l2 = canonL (clipF (covF (pA l1) (pB l1) (pC l1) (pD l1) l1.length) (-40) (-40) e9 e9) := by rw [hl2]; unfold clL; rw [ho1, hrv]; rfl
      have ho2 : okR (pA l2) (pB l2) (pC l2) (pD l2) l2.length = true := by rw [hc2]; exact okR_canonL _
      have hfin : canonL (seeF (covF (pA l2) (pB l2) (pC l2) (pD l2) l2.length) t 0) = L := by
        rw [hL]
        rw [← hjt]
        refine canonL_congr fun i hi => sq_see (k := j) (by omega) (fun i hi => ?_) hi
        rw [corn_t (by omega) hi, hjt]
        have e2 : covF (pA l2) (pB l2) (pC l2) (pD l2) l2.length i = clipF (covF (pA l1) (pB l1) (pC l1) (pD l1) l1.length) (-40) (-40) e9 e9 i := by rw [hc2]; exact cov_canonL_all _ hi
        have e1 : covF (pA l1) (pB l1) (pC l1) (pD l1) l1.length i = shF f 0 t i := by rw [hl1]; exact cov_canonL_all _ hi
        rw [e2]
        unfold clipF fC
        rw [e1]
        simp only [Bool.and_eq_true, decide_eq_true_eq]
        constructor
        · rintro ⟨h1, h2⟩
          exact ⟨h1, by omega, by omega⟩
        · rintro ⟨h1, h2, h3⟩
          exact ⟨h1, by omega⟩
      have HF := Lib.hid hfin
      have HL1 : Hid (canonL (shF (covF P Q R S n) 0 t) = l1) := Lib.hid (by rw [hl1, hf])
      have HL2 := Lib.hid hl2.symm
      have HO1 := Lib.hid ho1
      have HO2 := Lib.hid ho2
      have HOK := Lib.hid hok
      have hw1 : IntKind.i64.wrap ((j : Int) - 1) = (t : Int) := by rw [IntKind.wrap_i64]; omega
      have hw2 : IntKind.i64.wrap (40 - (j : Int)) = 40 - (j : Int) := by rw [IntKind.wrap_i64]; omega
      have hw3 : IntKind.i64.wrap (40 - (j : Int) + 1) = e9 := by rw [IntKind.wrap_i64]; omega
      have ht10 : t ≤ 1000 := by omega
      clear hl1 hl2 hc2 ho1 ho2 hL hfin hok hf hrv he9 hk ht hjt
      go_enter Tryd.func45, Tryd.ntmps45
      go_wp2_with fail
      refine (canBeSized_any m n cap P Q R S _ _ hn hcap (HD.out.ext (by (repeat (first | (with_reducible exact Below.refl _ _) | (with_reducible refine Ext.drewN ?_ _) | (with_reducible refine Below.drew ?_) | (with_reducible refine Ext.alloc ?_ _) | (with_reducible refine Ext.setCell ?_ (by simp; try omega) _) | (with_reducible refine Ext.trans ?_ (by assumption)) | (with_reducible assumption) | exact Below.refl _ _)))) (HR.out.ext (by (repeat (first | (with_reducible exact Below.refl _ _) | (with_reducible refine Ext.drewN ?_ _) | (with_reducible refine Below.drew ?_) | (with_reducible refine Ext.alloc ?_ _) | (with_reducible refine Ext.setCell ?_ (by simp; try omega) _) | (with_reducible refine Ext.trans ?_ (by assumption)) | (with_reducible assumption) | exact Below.refl _ _))))).mono ?_
      rintro e w1 ⟨rfl, bw1⟩
      rw [HB.out]
      have B1 : Below w.heap.size w w1 := by (repeat (first | (with_reducible exact Below.refl _ _) | (with_reducible refine Ext.drewN ?_ _) | (with_reducible refine Below.drew ?_) | (with_reducible refine Ext.alloc ?_ _) | (with_reducible refine Ext.setCell ?_ (by simp; try omega) _) | (with_reducible refine Ext.trans ?_ (by assumption)) | (with_reducible assumption) | exact Below.refl _ _))
      clear bw1
      go_wp2_with fail
      refine (seeingOnly_any m n cap P Q R S 0 t _ hn hcap (HD.out.ext B1) (HR.out.ext B1) HOK.out (by omega) ht10).mono ?_
      rintro e w2 ⟨⟨a1, c1, rfl, k1, O1⟩, bw2⟩
      rw [HL1.out] at k1 O1 ⊢
      have O1 := Lib.hid O1
      have B2 := Ext.trans B1 bw2
      clear bw2
      go_wp2_with fail
      refine (clipRegionC_any a1 l1.length c1 (pA l1) (pB l1) (pC l1) (pD l1) (-40) (-40) e9 e9 _ (by omega) k1 (HD.out.ext B2) O1.out.rects).mono ?_
      rintro e w3 ⟨⟨a2, c2, rfl, k2, O2⟩, bw3⟩
      rw [HL2.out] at k2 O2 ⊢
      have O2 := Lib.hid O2
      have B3 := Ext.trans B2 bw3
      clear bw3
      go_wp2_with fail
      refine (seeing_any a2 l2.length c2 (pA l2) (pB l2) (pC l2) (pD l2) t 0 _ (by omega) k2 (HD.out.ext B3) O2.out.rects HO2.out ht10 (by omega)).mono ?_
      rintro e w4 ⟨⟨a3, c3, rfl, k3, O3⟩, bw4⟩
      rw [HF.out] at k3 O3 ⊢
      have O3 := Lib.hid O3
      have B4 := Ext.trans B3 bw4
      have hB3 := B3.size
      clear bw4
      go_wp2_with fail
      go_ret
      exact ⟨⟨a3, c3, rfl, k3, O3.out.mono hB3⟩, B4⟩
theorem implSquareCover_any (m : Option Addr) (n cap : Nat) (P Q R S : Nat → Int) (k : Int) (w : World) (hn : n ≤ 1048576) (hcap : n ≤ cap) (hD : EnvW w) (hR : RectsIs w.heap.size w m n P Q R S) :
    Calls Tryd.prog 45 #[.slice m n cap, .int .i64 k] w fun e w' => LOwn w.heap.size (sqL P Q R S n k) e w' ∧ Below w.heap.size w w' :=
  (squareCoverC_any m n cap P Q R S k w hn hcap hD hR).mono fun _ _ h => ⟨h.1.weak, h.2⟩
end Go.Proofs.YtgccnongfdbalaaDoor
