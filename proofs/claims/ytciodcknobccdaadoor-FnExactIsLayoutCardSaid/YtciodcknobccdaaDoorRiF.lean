/- The program's runs of a set of columns. Condition: the table of math/bits is in memory. -/
import Derived.Test.YtciodcknobccdaaDoorRiE
namespace Go.Proofs.YtciodcknobccdaaDoor
open Go.RowKit
set_option linter.unusedVariables false
set_option linter.unusedSimpArgs false
attribute [local go_sem ↓] Go.wp_at_zero Go.wp_at_succ

/-- As IntsRes, and the length is within the capacity. -/
def IntsResC (B : Nat) (l : List Int) (e : Ending) (w : World) : Prop := ∃ h c, e = .returned (.slice (some ⟨h, 0, none⟩) l.length c) ∧ IntsIs B w h l ∧ l.length ≤ c
def mapA (l : List Nat) : List Int := l.map fun c : Nat => (c : Int) - 40
def mapB (l : List Nat) : List Int := l.map fun c : Nat => 64 + (c : Int) - 40
/-- What has come behind i words. -/
def PartL (X Y i : Nat) (L : List Int) : Prop :=
  (i = 0 ∧ L = []) ∨ (i = 1 ∧ ∃ l0, LowOf X l0 0 ∧ L = mapA l0) ∨ (i = 2 ∧ ∃ l0 l1, LowOf X l0 0 ∧ LowOf Y l1 0 ∧ L = mapA l0 ++ mapB l1)
theorem ixW0 (X Y : Int) (w : World) : (Instr.index 149 (Value.agg #[Value.int .u64 X, Value.int .u64 Y]) (Value.int .i64 0)).run Tryd.prog w = .ok (.int .u64 X) w := by
  simp [Instr.index, part, go_sem]
theorem ixW1 (X Y : Int) (w : World) : (Instr.index 149 (Value.agg #[Value.int .u64 X, Value.int .u64 Y]) (Value.int .i64 1)).run Tryd.prog w = .ok (.int .u64 Y) w := by
  simp [Instr.index, part, go_sem]
theorem xA_is {A : Nat} (h : W64 A) : bits .xor .u64 (A : Int) (IntKind.u64.wrap ((A : Int) * 2)) = ((chA A : Nat) : Int) := by
  have e : IntKind.u64.wrap ((A : Int) * 2) = ((A * 2 % 18446744073709551616 : Nat) : Int) := by rw [IntKind.wrap_u64]; omega
  rw [e, bits_xor_u64_nat A _ h (by omega)]
  rfl
theorem xB_is {A B : Nat} (hA : W64 A) (h : W64 B) : bits .xor .u64 (B : Int) (bits .or .u64 (IntKind.u64.wrap ((B : Int) * 2)) ((A : Int) / 9223372036854775808)) = ((chB A B : Nat) : Int) := by
  have e : IntKind.u64.wrap ((B : Int) * 2) = ((B * 2 % 18446744073709551616 : Nat) : Int) := by rw [IntKind.wrap_u64]; omega
  have e2 : (A : Int) / 9223372036854775808 = ((A / 9223372036854775808 : Nat) : Int) := by omega
  have h1 : A / 9223372036854775808 < 18446744073709551616 := by unfold W64 at hA; omega
  rw [e, e2, bits_or_u64_nat _ _ (by omega) h1, bits_xor_u64_nat B _ h (Nat.or_lt_two_pow (n := 64) (by omega) h1)]
  rfl
def zRow (n : Nat) : Array Value := madeCells (Value.int .i64 0).cells (n * 1)
theorem make_is (n : Nat) (w : World) (hn : n ≤ 254) : (Instr.makeSlice 29 (.int .i64 0) (.int .i64 (n : Int))).run Tryd.prog w = .ok (.slice (some ⟨w.heap.size, 0, none⟩) 0 n) (w.alloc (.cells (zRow n) 2)) := by
  obtain ⟨i0, hi, hz0, hz1, hz2⟩ := info_parts infoI
  have := run_make (P := Tryd.prog) w 29 2 i0 (.int .i64 0) Tryd.underlying29 hi hz0 .i64 .i64 0 (n : Int) (by omega) (by omega) (by rw [hz2]; omega) (by omega)
  rw [this, hz1, Int.toNat_natCast, Int.toNat_zero]
  rfl
theorem zRow_own (w : World) (B n : Nat) (hB : B ≤ w.heap.size) (hn : n ≤ 254) : (w.alloc (.cells (zRow n) 2)).ownsRow B 2 1 (.slice (some ⟨w.heap.size, 0, none⟩) 0 n) 0 [] :=
  World.ownsRow_made w (zRow n) n hB (by unfold maxLen; omega) (by unfold zRow; rw [size_madeCells])

theorem nxA_is {A : Nat} : IntKind.u64.wrap ((A : Int) * 2) = ((A * 2 % 18446744073709551616 : Nat) : Int) := by rw [IntKind.wrap_u64]; omega
theorem nxB_is {A B : Nat} (hA : W64 A) : bits .or .u64 (IntKind.u64.wrap ((B : Int) * 2)) ((A : Int) / 9223372036854775808) = (((B * 2 % 18446744073709551616) ||| (A / 9223372036854775808) : Nat) : Int) := by
  have e2 : (A : Int) / 9223372036854775808 = ((A / 9223372036854775808 : Nat) : Int) := by omega
  have h1 : A / 9223372036854775808 < 18446744073709551616 := by unfold W64 at hA; omega
  rw [nxA_is, e2, bits_or_u64_nat _ _ (by omega) h1]
set_option maxHeartbeats 2000000 in
theorem next_any (A B : Nat) (w : World) (hA : W64 A) (hB : W64 B) :
    Calls Tryd.prog 171 #[colV A B] w fun e w' => e = .returned (colV (A * 2 % 18446744073709551616) ((B * 2 % 18446744073709551616) ||| (A / 9223372036854775808))) ∧ Below w.heap.size w w' := by
  have h1 := nxA_is (A := A)
  have h2 := nxB_is (B := B) hA
  go_enter Tryd.func171, Tryd.ntmps171
  go_wp2_with fail
  refine bodyPost_ret (v := colV (A * 2 % 18446744073709551616) ((B * 2 % 18446744073709551616) ||| (A / 9223372036854775808))) (by simp [*, results, Tryd.results171, go_sem]) rfl ⟨rfl, ?_⟩
  (repeat (first | (with_reducible exact Below.refl _ _) | (with_reducible refine Ext.drewN ?_ _) | (with_reducible refine Below.drew ?_) | (with_reducible refine Ext.alloc ?_ _) | (with_reducible refine Ext.setCell ?_ (by simp; try omega) _) | (with_reducible refine Ext.trans ?_ (by assumption)) | (with_reducible assumption) | exact Below.refl _ _))
set_option maxHeartbeats 2000000 in
theorem count_any (X Y : Int) (w : World) :
    Calls Tryd.prog 172 #[.agg #[.int .u64 X, .int .u64 Y]] w fun e w' => (∃ n : Nat, n ≤ 254 ∧ e = .returned (.int .i64 (n : Int))) ∧ Below w.heap.size w w' := by
  go_enter Tryd.func172, Tryd.ntmps172
  go_upto_region 1 with fail
  go_cut [2] (fun s2 wx => ∃ n : Nat, n ≤ 254 ∧ s2 = .int .i64 (n : Int) ∧ Below w.heap.size w wx)
  case first =>
    go_region_held3 (fun w' => Below (w.alloc (.cells #[.int .u64 X, .int .u64 Y] 149)).heap.size (w.alloc (.cells #[.int .u64 X, .int .u64 Y] 149)) w' ∧ w'.cell? ⟨w.heap.size, 0, none⟩ = some (.int .u64 X) ∧ w'.cell? ⟨w.heap.size, 1, none⟩ = some (.int .u64 Y))
      (first | ((try dsimp only); go_split_ands; (repeat' (with_reducible refine And.intro ?_ ?_)) <;> first | ((repeat (first | (with_reducible refine keepC (by assumption) ?_) | (with_reducible refine keepS ?_ (by simp; try omega) _) | (with_reducible refine cellA ?_ (by simp; try omega) _))); (first | (with_reducible assumption) | (simp [go_sem]; done))) | ((repeat (first | (with_reducible refine keepS ?_ (by simp; try omega) _) | (with_reducible refine cellA ?_ (by simp; try omega) _))); (first | (with_reducible assumption) | (with_reducible exact keepC (by assumption) (by assumption)) | (with_reducible exact keepA (by assumption) _) | (with_reducible exact keepR (by assumption) (by omega) _))) | ((try simp only [World.size_alloc, World.size_setCell, World.size_drew]); omega) | (refine Mats.below hM ?_ hM.size; (repeat (first | (with_reducible exact Below.refl _ _) | (with_reducible refine Ext.drewN ?_ _) | (with_reducible refine Below.drew ?_) | (with_reducible refine Ext.alloc ?_ _) | (with_reducible refine Ext.setCell ?_ (by simp; try omega) _) | (with_reducible refine Ext.trans ?_ (by assumption)) | (with_reducible assumption) | exact Below.refl _ _)); done) | ((repeat (first | (with_reducible exact Below.refl _ _) | (with_reducible refine Ext.drewN ?_ _) | (with_reducible refine Below.drew ?_) | (with_reducible refine Ext.alloc ?_ _) | (with_reducible refine Ext.setCell ?_ (by simp; try omega) _) | (with_reducible refine Ext.trans ?_ (by assumption)) | (with_reducible assumption) | exact Below.refl _ _)); done) | (go_keep; done)))
      (first | (go_at_call_of 183 (Value.int .u64 X); refine (ones_any _ _).mono ?_; rintro e v0 ⟨⟨n0, hn0, rfl⟩, rfl⟩) | (go_at_call_of 183 (Value.int .u64 Y); refine (ones_any _ _).mono ?_; rintro e v1 ⟨⟨n1, hn1, rfl⟩, rfl⟩))
    all_goals
      go_wp2_with fail
      go_meet
      refine ⟨n0 + n1, by omega, by rw [show IntKind.i64.wrap ((n0 : Int) + (n1 : Int)) = ((n0 + n1 : Nat) : Int) by rw [IntKind.wrap_i64]; omega], ?_⟩
      (repeat (first | (with_reducible exact Below.refl _ _) | (with_reducible refine Ext.drewN ?_ _) | (with_reducible refine Below.drew ?_) | (with_reducible refine Ext.alloc ?_ _) | (with_reducible refine Ext.setCell ?_ (by simp; try omega) _) | (with_reducible refine Ext.trans ?_ (by assumption)) | (with_reducible assumption) | exact Below.refl _ _))
  case rest =>
    obtain ⟨n, hn, rfl, hb⟩ := hcut
    go_wp2_with fail
    refine bodyPost_ret (results_tmp rfl _ _ _) rfl ⟨⟨n, hn, rfl⟩, hb⟩

set_option maxHeartbeats 8000000 in
set_option maxRecDepth 100000 in
theorem runs_any (A B : Nat) (w : World) (hA : W64 A) (hB : B < 65536) (hD : DebW w) (f : Nat → Bool) (y : Int) (hf : ∀ c : Nat, c < 80 → colB A B c = hasB f ((c : Int) - 40) y) :
    Calls Tryd.prog 154 #[colV A B] w fun e w' => IntsResC w.heap.size (runsL f y) e w' ∧ Below w.heap.size w w' := by
  obtain ⟨i0, hi, hz0, hz1, hz2⟩ := info_parts infoI
  have hB64 : W64 B := by unfold W64; omega
  have x0 := xA_is hA
  have x1 := xB_is hA hB64
  have k0 := chA_lt hA
  have k1 := chB_lt hA hB64
  obtain ⟨X, hX⟩ : ∃ X, X = chA A := ⟨_, rfl⟩
  obtain ⟨Y, hY⟩ : ∃ Y, Y = chB A B := ⟨_, rfl⟩
  rw [← hX] at x0 k0
  rw [← hY] at x1 k1
  obtain ⟨NA, hNA⟩ : ∃ NA, NA = A * 2 % 18446744073709551616 := ⟨_, rfl⟩
  obtain ⟨NB, hNB⟩ : ∃ NB, NB = (B * 2 % 18446744073709551616) ||| (A / 9223372036854775808) := ⟨_, rfl⟩
  have hnx := fun w => next_any A B w hA hB64
  rw [← hNA, ← hNB] at hnx
  have y0 : bits .xor .u64 (A : Int) (NA : Int) = (X : Int) := by rw [hNA, ← nxA_is]; exact x0
  have y1 : bits .xor .u64 (B : Int) (NB : Int) = (Y : Int) := by rw [hNB, ← nxB_is hA]; exact x1
  clear hNA hNB x0 x1
  have HD := Lib.hid hD
  have HF := Lib.hid hf
  have HA := Lib.hid hA
  have HB := Lib.hid hB
  have HX := Lib.hid hX
  have HY := Lib.hid hY
  clear hD hf hA hB hX hY
  have hmk := make_is
  have hiw0 := ixW0 (X : Int) (Y : Int)
  have hiw1 := ixW1 (X : Int) (Y : Int)
  go_enter Tryd.func154, Tryd.ntmps154
  go_wp2_with (go_at_call 171; refine (hnx _).mono ?_; rintro e w1 ⟨rfl, bw1⟩; have l1 : w.heap.size < w1.heap.size := (by have := bw1.size; simp at this; omega); have c0 : w1.cell? ⟨w.heap.size, 0, none⟩ = some (.int .u64 (A : Int)) := ((bw1.cell (p := ⟨w.heap.size, 0, none⟩) (by simp)).trans (by simp [go_sem])); have c1 : w1.cell? ⟨w.heap.size, 1, none⟩ = some (.int .u64 (B : Int)) := ((bw1.cell (p := ⟨w.heap.size, 1, none⟩) (by simp)).trans (by simp [go_sem])); have B1 : Below w.heap.size w w1 := Ext.trans (Ext.alloc (Below.refl _ _) _) bw1)
  go_wp2_with (go_at_call 172; refine (count_any _ _ _).mono ?_; rintro e w2 ⟨⟨n, hn, rfl⟩, bw2⟩; have l2 : w1.heap.size + 1 < w2.heap.size := (by have := bw2.size; simp at this; omega); have d0 : w2.cell? ⟨w1.heap.size + 1, 0, none⟩ = some (.int .u64 (X : Int)) := ((bw2.cell (p := ⟨w1.heap.size + 1, 0, none⟩) (by simp)).trans (by simp [go_sem])); have d1 : w2.cell? ⟨w1.heap.size + 1, 1, none⟩ = some (.int .u64 (Y : Int)) := ((bw2.cell (p := ⟨w1.heap.size + 1, 1, none⟩) (by simp)).trans (by simp [go_sem])); have B2 : Below w.heap.size w w2 := Ext.trans (Ext.alloc (Ext.alloc B1 _) _) bw2; have hmn := hmk n w2 hn)
  have hown0 := zRow_own w2 w.heap.size n B2.size hn
  have hb0 : Below w.heap.size w (w2.alloc (.cells (zRow n) 2)) := Ext.alloc B2 _
  obtain ⟨w3, hw3⟩ : ∃ w3, w3 = w2.alloc (.cells (zRow n) 2) := ⟨_, rfl⟩
  obtain ⟨h0, hh0⟩ : ∃ h0, h0 = w2.heap.size := ⟨_, rfl⟩
  rw [← hw3, ← hh0] at hown0
  rw [← hw3] at hb0
  simp only [← hw3, ← hh0]
  clear hw3 hh0 hmn d0 d1 l2 bw2 B2 bw1 c0 c1 l1 B1
  go_loopw [5, 25] (fun s5 s25 wr => ∃ (i : Nat) (L : List Int) (h c' : Nat), i ≤ 2 ∧ s25 = .int .i64 (i : Int) ∧ s5 = .slice (some ⟨h, 0, none⟩) L.length c' ∧ wr.ownsRow w.heap.size 2 1 (.slice (some ⟨h, 0, none⟩) L.length c') L.length (L.map (Value.int .i64)) ∧ Below w.heap.size w wr ∧ PartL X Y i L) (fun _ s25 _ => 2 - (intOf s25).toNat)
  case atStart => exact ⟨0, [], h0, n, by omega, rfl, rfl, hown0, hb0, .inl ⟨rfl, rfl⟩⟩
  case round =>
    obtain ⟨i, L, h, c', hi2, rfl, rfl, hown, hb, hp⟩ := hrel
    rcases hp with hp | hp | hp
    · obtain ⟨rfl, rfl⟩ := hp
      simp only [show ((0 : Nat) : Int) = 0 from rfl, show ((1 : Nat) : Int) = 1 from rfl]
      go_wp2_with fail
      go_loopw [5, 7] (fun s5 s7 wr => ∃ (l : List Nat) (x h c' : Nat), s7 = .int .u64 (x : Int) ∧ W64 x ∧ LowOf X l x ∧ s5 = .slice (some ⟨h, 0, none⟩) (mapA l).length c' ∧ wr.ownsRow w.heap.size 2 1 (.slice (some ⟨h, 0, none⟩) (mapA l).length c') (mapA l).length ((mapA l).map (Value.int .i64)) ∧ Below w.heap.size w wr) (fun _ s7 _ => (intOf s7).toNat)
      case atStart => exact ⟨[], X, h, c', rfl, k0, LowOf.start _, by simp [mapA, mapB], by simpa [mapA, mapB] using hown, hb⟩
      case round =>
        obtain ⟨l, x, h1, c1, rfl, hx, hl, rfl, hown1, hb1⟩ := hrel
        have HL := Lib.hid hl
        have hlen := hl.len
        by_cases hx0 : x = 0
        · subst hx0
          have HL2 := HL
          go_wp2_with fail
          go_roundw
          case rel => exact ⟨1, _, h1, c1, by omega, by go_num, rfl, hown1, hb1, .inr (.inl ⟨rfl, l, HL.out, rfl⟩)⟩
          case measure => simp [intOf]
        · have hn0 : ¬ (x : Int) = 0 := by omega
          have hnx := hl.next hx0 hx
          obtain ⟨k1, k2, k3, k4, k5⟩ := drop_low x hx0 hx
          have tz := fun w' (hw : DebW w') => tz_any x w' hx hx0 hw
          obtain ⟨k, hk⟩ : ∃ k, k = Lib.ctz 64 x := ⟨_, rfl⟩
          rw [← hk] at hnx k1 tz
          obtain ⟨x', hx'⟩ : ∃ x', x' = x &&& (x - 1) := ⟨_, rfl⟩
          rw [← hx'] at hnx k5
          have w1 : IntKind.u64.wrap ((x : Int) - 1) = ((x - 1 : Nat) : Int) := by rw [IntKind.wrap_u64]; unfold W64 at hx; omega
          have w2 := bits_and_u64_nat x (x - 1) hx (by unfold W64 at hx; omega)
          rw [← hx'] at w2
          have hx64 : W64 x' := by unfold W64 at hx ⊢; omega
          obtain ⟨xm, hxm⟩ : ∃ xm, xm = x - 1 := ⟨_, rfl⟩
          rw [← hxm] at w1 w2
          have HN := Lib.hid hnx
          clear hnx k2 k3 k4 hk hx' hl hxm
          have HD1 := Lib.hid (HD.out.ext hb1)
          obtain ⟨M, hM⟩ : ∃ M, M = mapA l := ⟨_, rfl⟩
          have hMl : M.length ≤ 128 := by rw [hM]; have e1 : (mapA l).length = l.length := (by simp [mapA]); omega
          rw [← hM] at hown1 ⊢
          have HM := Lib.hid hM
          clear hM
          go_wp2_with (first | (go_at_call 173; refine (tz _ HD1.out).mono ?_; rintro e w1 ⟨rfl, hw1⟩; obtain rfl := hw1.symm) | (at_builtin; refine wpList_append_own _ rfl _ _ 29 rfl w.heap.size 2 i0 (.int .i64 0) 1 8 Tryd.underlying29 hi hz0 hz1 hz2 rfl (by decide) _ _ _ rfl (hown1.alloc _) ⟨wr.heap.size, 0, none⟩ 1 1 [.int .i64 ((k : Int) - 40)] rfl rfl ?c1 ?c2 ?c3 ?c4 ?c5 ?_))
          case c1 =>
            intro j u hj
            match j, hj with
            | 0, hj => simp at hj; subst hj; rw [addG]; simp [go_sem]
          case c2 => intro u hu; simp at hu; subst hu; rfl
          case c3 => unfold maxLen; omega
          case c4 => omega
          case c5 => have := hb1.size; (try simp only [World.size_alloc]); omega
          intro v' wn hown' hgrow _
          have hb2 : Below w.heap.size w wn := (hb1.alloc hb1.size _).grown hgrow (by have := hb1.size; simp; omega) (fun j hj => (hown1.lt j hj).1)
          obtain ⟨h', c2, rfl, hown2⟩ := ints_next rfl hown'
          clear hown' hgrow hown1
          go_wp2_with fail
          go_roundw
          case rel =>
            have hL2 : M ++ [(k : Int) - 40] = mapA (l ++ [k]) := by rw [HM.out]; simp [mapA, mapB]
            rw [hL2] at hown2
            refine ⟨l ++ [k], x', h', c2, rfl, hx64, HN.out, by rw [hL2], hown2, hb2⟩
          case measure => simp [intOf]; omega
    · obtain ⟨rfl, l0, hl0, rfl⟩ := hp
      simp only [show ((0 : Nat) : Int) = 0 from rfl, show ((1 : Nat) : Int) = 1 from rfl]
      have HL0 := Lib.hid hl0
      clear hl0
      go_wp2_with fail
      go_loopw [5, 7] (fun s5 s7 wr => ∃ (l : List Nat) (x h c' : Nat), s7 = .int .u64 (x : Int) ∧ W64 x ∧ LowOf Y l x ∧ s5 = .slice (some ⟨h, 0, none⟩) (mapA l0 ++ mapB l).length c' ∧ wr.ownsRow w.heap.size 2 1 (.slice (some ⟨h, 0, none⟩) (mapA l0 ++ mapB l).length c') (mapA l0 ++ mapB l).length ((mapA l0 ++ mapB l).map (Value.int .i64)) ∧ Below w.heap.size w wr) (fun _ s7 _ => (intOf s7).toNat)
      case atStart => exact ⟨[], Y, h, c', rfl, k1, LowOf.start _, by simp [mapA, mapB], by simpa [mapA, mapB] using hown, hb⟩
      case round =>
        obtain ⟨l, x, h1, c1, rfl, hx, hl, rfl, hown1, hb1⟩ := hrel
        have HL := Lib.hid hl
        have hlen := hl.len
        by_cases hx0 : x = 0
        · subst hx0
          have HL2 := HL
          go_wp2_with fail
          go_roundw
          case rel => exact ⟨2, _, h1, c1, by omega, by go_num, rfl, hown1, hb1, .inr (.inr ⟨rfl, l0, l, HL0.out, HL.out, rfl⟩)⟩
          case measure => simp [intOf]
        · have hn0 : ¬ (x : Int) = 0 := by omega
          have hnx := hl.next hx0 hx
          obtain ⟨k1, k2, k3, k4, k5⟩ := drop_low x hx0 hx
          have tz := fun w' (hw : DebW w') => tz_any x w' hx hx0 hw
          obtain ⟨k, hk⟩ : ∃ k, k = Lib.ctz 64 x := ⟨_, rfl⟩
          rw [← hk] at hnx k1 tz
          obtain ⟨x', hx'⟩ : ∃ x', x' = x &&& (x - 1) := ⟨_, rfl⟩
          rw [← hx'] at hnx k5
          have w1 : IntKind.u64.wrap ((x : Int) - 1) = ((x - 1 : Nat) : Int) := by rw [IntKind.wrap_u64]; unfold W64 at hx; omega
          have w2 := bits_and_u64_nat x (x - 1) hx (by unfold W64 at hx; omega)
          rw [← hx'] at w2
          have hx64 : W64 x' := by unfold W64 at hx ⊢; omega
          obtain ⟨xm, hxm⟩ : ∃ xm, xm = x - 1 := ⟨_, rfl⟩
          rw [← hxm] at w1 w2
          have HN := Lib.hid hnx
          clear hnx k2 k3 k4 hk hx' hl hxm
          have HD1 := Lib.hid (HD.out.ext hb1)
          obtain ⟨M, hM⟩ : ∃ M, M = mapA l0 ++ mapB l := ⟨_, rfl⟩
          have hMl : M.length ≤ 128 := by rw [hM]; have e1 : (mapA l0 ++ mapB l).length = l0.length + l.length := (by simp [mapA, mapB]); have e2 := HL0.out.len; omega
          rw [← hM] at hown1 ⊢
          have HM := Lib.hid hM
          clear hM
          go_wp2_with (first | (go_at_call 173; refine (tz _ HD1.out).mono ?_; rintro e w1 ⟨rfl, hw1⟩; obtain rfl := hw1.symm) | (at_builtin; refine wpList_append_own _ rfl _ _ 29 rfl w.heap.size 2 i0 (.int .i64 0) 1 8 Tryd.underlying29 hi hz0 hz1 hz2 rfl (by decide) _ _ _ rfl (hown1.alloc _) ⟨wr.heap.size, 0, none⟩ 1 1 [.int .i64 (64 + (k : Int) - 40)] rfl rfl ?c1 ?c2 ?c3 ?c4 ?c5 ?_))
          case c1 =>
            intro j u hj
            match j, hj with
            | 0, hj => simp at hj; subst hj; rw [addG]; simp [go_sem]
          case c2 => intro u hu; simp at hu; subst hu; rfl
          case c3 => unfold maxLen; omega
          case c4 => omega
          case c5 => have := hb1.size; (try simp only [World.size_alloc]); omega
          intro v' wn hown' hgrow _
          have hb2 : Below w.heap.size w wn := (hb1.alloc hb1.size _).grown hgrow (by have := hb1.size; simp; omega) (fun j hj => (hown1.lt j hj).1)
          obtain ⟨h', c2, rfl, hown2⟩ := ints_next rfl hown'
          clear hown' hgrow hown1
          go_wp2_with fail
          go_roundw
          case rel =>
            have hL2 : M ++ [64 + (k : Int) - 40] = mapA l0 ++ mapB (l ++ [k]) := by rw [HM.out]; simp [mapA, mapB]
            rw [hL2] at hown2
            refine ⟨l ++ [k], x', h', c2, rfl, hx64, HN.out, by rw [hL2], hown2, hb2⟩
          case measure => simp [intOf]; omega
    · obtain ⟨rfl, l0, l1, hl0, hl1, rfl⟩ := hp
      have HL0 := Lib.hid hl0
      have HL1 := Lib.hid hl1
      clear hl0 hl1
      go_wp2_with fail
      refine bodyPost_ret (results_tmp rfl _ _ _) rfl ?_
      have hr := runs_of_bits HA.out HB.out HF.out (HX.out ▸ HL0.out) (HY.out ▸ HL1.out)
      have hm : mapA l0 ++ mapB l1 = runsL f y := by
        rw [hr]
        unfold mapA mapB
        congr 1
        exact List.map_congr_left fun c _ => by omega
      have hown0 := hown
      rw [hm] at hown
      have hcap : (mapA l0 ++ mapB l1).length ≤ c' := by
        rcases hown0.2 with ⟨e0, _⟩ | ⟨g0, cap0, cur0, e0, _, _, e1, _⟩
        · cases e0
        · cases e0; exact e1
      exact ⟨⟨h, c', by rw [← hm]; rfl, ints_own hown, by rw [← hm]; exact hcap⟩, hb⟩
end Go.Proofs.YtciodcknobccdaaDoor
