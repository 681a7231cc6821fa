/- Contracts of the model's moves of points and cells, of the conversions and comparisons of the laws. -/
import Derived.Test.YtciodcknobccdaaDoorTrB
namespace Go.Proofs.YtciodcknobccdaaDoor
open Go.RowKit
set_option linter.unusedVariables false
set_option linter.unusedSimpArgs false

def onB (x y : Int) : Bool := inB x (-40) 40 && inB y (-40) 40
def ucB (x y : Int) : Bool := inB x (-40) 39 && inB y (-40) 39
theorem onB_t {x y : Int} (h : onB x y = true) : (-40 ≤ x ∧ x ≤ 40) ∧ (-40 ≤ y ∧ y ≤ 40) := by
  unfold onB at h; simp only [Bool.and_eq_true] at h; exact ⟨inB_t h.1, inB_t h.2⟩
theorem ucB_t {x y : Int} (h : ucB x y = true) : (-40 ≤ x ∧ x ≤ 39) ∧ (-40 ≤ y ∧ y ≤ 39) := by
  unfold ucB at h; simp only [Bool.and_eq_true] at h; exact ⟨inB_t h.1, inB_t h.2⟩

theorem t_bd (o x y B : Int) (hx : -B ≤ x) (hx' : x ≤ B) (hy : -B ≤ y) (hy' : y ≤ B) : (-B ≤ tX o x y ∧ tX o x y ≤ B) ∧ (-B ≤ tY o x y ∧ tY o x y ≤ B) := by
  unfold tX tY
  refine ⟨?_, ?_⟩ <;> (repeat' split) <;> omega

theorem toPoint_any (x y : Int) (w : World) : Calls Tryd.prog 163 #[.agg #[.int .i64 x, .int .i64 y]] w fun e w' => e = .returned (.agg #[.int .i64 x, .int .i64 y]) ∧ Below w.heap.size w w' := by
  go_enter Tryd.func163, Tryd.ntmps163
  go_wp2
  exact bodyPost_ret (v := .agg #[.int .i64 x, .int .i64 y]) (by simp [results, Tryd.results163, go_sem]) rfl ⟨rfl, by go_grown⟩

def eqPB (a b c d : Int) : Bool := a == c && b == d
theorem eqPoint_any (a b c d : Int) (w : World) : Calls Tryd.prog 164 #[.agg #[.int .i64 a, .int .i64 b], .agg #[.int .i64 c, .int .i64 d]] w fun e w' => e = .returned (.bool (eqPB a b c d)) ∧ Below w.heap.size w w' := by
  by_cases h1 : a = c
  · by_cases h2 : b = d
    all_goals
      go_enter Tryd.func164, Tryd.ntmps164
      go_wp2
      go_ret
      exact ⟨ret_bool (by simp [eqPB, h1, h2]), by go_grown⟩
  · go_enter Tryd.func164, Tryd.ntmps164
    go_wp2
    go_ret
    exact ⟨ret_bool (by simp [eqPB, h1]), by go_grown⟩

def eqTB (a b c d e f : Int) : Bool := a == d && b == e && c == f
theorem eqTransform_any (a b c d e f : Int) (w : World) : Calls Tryd.prog 24 #[.agg #[.int .i64 a, .int .i64 b, .int .i64 c], .agg #[.int .i64 d, .int .i64 e, .int .i64 f]] w fun e' w' => e' = .returned (.bool (eqTB a b c d e f)) ∧ Below w.heap.size w w' := by
  by_cases h1 : a = d
  · by_cases h2 : b = e
    · by_cases h3 : c = f
      all_goals
        go_enter Tryd.func24, Tryd.ntmps24
        go_wp2
        go_ret
        exact ⟨ret_bool (by simp [eqTB, h1, h2, h3]), by go_grown⟩
    · go_enter Tryd.func24, Tryd.ntmps24
      go_wp2
      go_ret
      exact ⟨ret_bool (by simp [eqTB, h1, h2]), by go_grown⟩
  · go_enter Tryd.func24, Tryd.ntmps24
    go_wp2
    go_ret
    exact ⟨ret_bool (by simp [eqTB, h1]), by go_grown⟩

theorem isOnChip_any (x y : Int) (w : World) : Calls Tryd.prog 60 #[.agg #[.int .i64 x, .int .i64 y]] w fun e w' => e = .returned (.bool (onB x y)) ∧ Below w.heap.size w w' := by
  by_cases h1 : inB x (-40) 40 = true
  all_goals
    go_enter Tryd.func60, Tryd.ntmps60
    go_wp2_with (go_at_call 87; go_call inRange_any as e w' ⟨rfl, rfl⟩)
    go_ret
    exact ⟨ret_bool (by simp [onB, h1]), by go_grown⟩

theorem isUnitCell_any (x y : Int) (w : World) : Calls Tryd.prog 187 #[.agg #[.int .i64 x, .int .i64 y]] w fun e w' => e = .returned (.bool (ucB x y)) ∧ Below w.heap.size w w' := by
  by_cases h1 : inB x (-40) 39 = true
  all_goals
    go_enter Tryd.func187, Tryd.ntmps187
    go_wp2_with (go_at_call 87; go_call inRange_any as e w' ⟨rfl, rfl⟩)
    go_ret
    exact ⟨ret_bool (by simp [ucB, h1]), by go_grown⟩

theorem l01Move_any (o x y a b : Int) (w : World) (h0 : 0 ≤ o) (h7 : o ≤ 7) (hx : -1000 ≤ x) (hx' : x ≤ 1000) (hy : -1000 ≤ y) (hy' : y ≤ 1000) (ha : -1000 ≤ a) (ha' : a ≤ 1000) (hb : -1000 ≤ b) (hb' : b ≤ 1000) :
    Calls Tryd.prog 53 #[.agg #[.int .i64 o, .int .i64 x, .int .i64 y], .agg #[.int .i64 a, .int .i64 b]] w fun e w' => e = .returned (.agg #[.int .i64 (tX o a b + x), .int .i64 (tY o a b + y)]) ∧ Below w.heap.size w w' := by
  obtain ⟨⟨t1, t2⟩, t3, t4⟩ := t_bd o a b 1000 ha ha' hb hb'
  go_enter Tryd.func53, Tryd.ntmps53
  go_wp2_with fail
  go_call (turn_any) as e w1 ⟨rfl, bw1⟩
  obtain ⟨sw1, zw1, cw1, fw1⟩ := bcell bw1
  try simp only [World.size_alloc, World.size_setCell, World.size_drew] at sw1
  try have lw1_w_0 : w.heap.size < w1.heap.size := by omega
  try have lw1_w_1 : w.heap.size + 1 < w1.heap.size := by omega
  try have lw1_w_2 : w.heap.size + 1 + 1 < w1.heap.size := by omega
  try have lw1_w_3 : w.heap.size + 1 + 1 + 1 < w1.heap.size := by omega
  try have lw1_w_4 : w.heap.size + 1 + 1 + 1 + 1 < w1.heap.size := by omega
  try have lw1_w_5 : w.heap.size + 1 + 1 + 1 + 1 + 1 < w1.heap.size := by omega
  try have lw1_w_6 : w.heap.size + 1 + 1 + 1 + 1 + 1 + 1 < w1.heap.size := by omega
  go_wp2_with fail
  refine bodyPost_ret (v := .agg #[.int .i64 (tX o a b + x), .int .i64 (tY o a b + y)]) (by simp [*, results, Tryd.results53, go_sem]) rfl ⟨rfl, ?_⟩
  (repeat (first | (with_reducible exact Below.refl _ _) | (with_reducible refine Ext.drewN ?_ _) | (with_reducible refine Below.drew ?_) | (with_reducible refine Ext.alloc ?_ _) | (with_reducible refine Ext.setCell ?_ (by simp; try omega) _) | (with_reducible refine Ext.trans ?_ (by assumption)) | (with_reducible assumption) | exact Below.refl _ _))

def mpB (o x y a b : Int) : Bool := vldB o x y && onB a b
def mpX (o x y a b : Int) : Int := if mpB o x y a b = true then tX o a b + x else 0
def mpY (o x y a b : Int) : Int := if mpB o x y a b = true then tY o a b + y else 0
/-- What MovePoint answers. -/
def mpV (o x y a b : Int) : Value := .tuple #[.agg #[.int .i64 (mpX o x y a b), .int .i64 (mpY o x y a b)], .bool (mpB o x y a b)]
theorem mpV_yes {o x y a b : Int} (h1 : vldB o x y = true) (h2 : onB a b = true) : mpV o x y a b = .tuple #[.agg #[.int .i64 (tX o a b + x), .int .i64 (tY o a b + y)], .bool true] := by
  simp [mpV, mpX, mpY, mpB, h1, h2]
theorem mpV_no {o x y a b : Int} (h : mpB o x y a b = false) : mpV o x y a b = .tuple #[.agg #[.int .i64 0, .int .i64 0], .bool false] := by
  simp [mpV, mpX, mpY, h]
end Go.Proofs.YtciodcknobccdaaDoor
