/- The model's words of a text. Condition: the text has at most 1000 bytes. -/
import Derived.Test.YtlbanaoabifaiaaDoorPaA
import Derived.OwnWalk
import Derived.Laws.AppendOwn
import Derived.LoopN
namespace Go.Proofs.YtlbanaoabifaiaaDoor
open Go.RowKit
set_option linter.unusedVariables false
set_option linter.unusedSimpArgs false

theorem infoS : (Tryd.prog.info? 9).map (fun i => (i.zero, i.size, i.bytes)) = some (some (.string ⟨#[]⟩), 1, 16) := by kernel_rfl

/-- A list of texts lies in memory. -/
def TextsIs (B : Nat) (w : World) (g : Nat) (l : List ByteArray) : Prop := B ≤ g ∧ g < w.heap.size ∧ ∀ k p, l[k]? = some p → w.cell? ⟨g, k, none⟩ = some (.string p)
theorem addN (g k : Nat) : (⟨g, 0, none⟩ : Addr).add k = ⟨g, k, none⟩ := by
  unfold Addr.add
  split
  · rename_i h; subst h; rfl
  · simp
theorem texts_own {w : World} {B E g n cap : Nat} {l : List ByteArray} (h : w.ownsRow B E 1 (.slice (some ⟨g, 0, none⟩) n cap) n (l.map Value.string)) : TextsIs B w g l := by
  have hl := h.lt g rfl
  refine ⟨hl.1, hl.2, fun k p hp => ?_⟩
  have := h.cells (g := g) rfl k (.string p) (by rw [List.getElem?_map, hp]; rfl)
  rwa [addN] at this
theorem TextsIs.below {B C : Nat} {W W' : World} {g : Nat} {l : List ByteArray} (h : TextsIs B W g l) (hb : Below C W W') (hg : W.heap.size ≤ C) : TextsIs B W' g l :=
  ⟨h.1, Nat.lt_of_lt_of_le h.2.1 hb.size, fun k p hp => (hb.cell (show (⟨g, k, none⟩ : Addr).block < C from Nat.lt_of_lt_of_le h.2.1 hg)).trans (h.2.2 k p hp)⟩

theorem at32 (s : ByteArray) (k : Nat) (h : k < s.size) : s[k] = 32 ∨ ((s[k].toNat : Int) == 32) = false := by
  by_cases e : s[k] = 32
  · exact .inl e
  · refine .inr ?_
    have : s[k].toNat ≠ 32 := fun e' => e (UInt8.toNat_inj.1 e')
    simp; omega

set_option maxHeartbeats 4000000 in
theorem l01Words_any (s : ByteArray) (w : World) (hs : s.size ≤ 1000) :
    Calls Tryd.prog 35 #[.string s, .int .u8 32] w fun e w' => ∃ g cap, e = .returned (.slice (some ⟨g, 0, none⟩) (wordsB s).length cap) ∧ TextsIs w.heap.size w' g (wordsB s) ∧ Below w.heap.size w w' := by
  obtain ⟨i0, hi, hz0, hz1, hz2⟩ := info_parts infoS
  go_enter Tryd.func35, Tryd.ntmps35
  go_wp2_with fail
  go_loopw [5, 6, 7] (fun v f i wr => ∃ (k a : Nat) (done : List ByteArray), k ≤ s.size ∧ a ≤ k ∧ f = .int .i64 a ∧ i = .int .i64 k ∧ wr.ownsRow w.heap.size 9 1 v done.length (done.map Value.string) ∧ Below w.heap.size w wr ∧ done ++ wordsB (s.extract a s.size) = wordsB s ∧ (∀ j (h : j < s.size), a ≤ j → j < k → s[j] ≠ 32) ∧ done.length ≤ k) (fun _ _ i _ => s.size - (intOf i).toNat)
  case atStart =>
    refine ⟨0, 0, [], by omega, by omega, rfl, rfl, ?_, by (repeat (first | (with_reducible exact Below.refl _ _) | (with_reducible refine Ext.drewN ?_ _) | (with_reducible refine Below.drew ?_) | (with_reducible refine Ext.alloc ?_ _) | (with_reducible refine Ext.setCell ?_ (by simp; try omega) _) | (with_reducible refine Ext.trans ?_ (by assumption)) | (with_reducible assumption) | exact Below.refl _ _)), by rw [extract_all]; rfl, fun j _ h1 h2 => by omega, Nat.le_refl _⟩
    exact World.ownsRow_made w #[] 0 (Nat.le_refl _) (by unfold maxLen; decide) rfl
  case round =>
    obtain ⟨k, a, done, hk, ha, rfl, rfl, hown, hb, hw, hn, hd⟩ := hrel
    have HN := Lib.hid hn
    have HW := Lib.hid hw
    clear hn hw
    by_cases hlt : k < s.size
    · have q1 : (k : Int) < (s.size : Int) := by omega
      rcases at32 s k hlt with h32 | h32
      · have hv : (s[k].toNat : Int) = 32 := by rw [h32]; rfl
        go_wp2_with (at_builtin; refine wpList_append_own _ rfl _ _ 53 rfl w.heap.size 9 i0 (.string ⟨#[]⟩) 1 16 Tryd.underlying53 hi hz0 hz1 hz2 rfl (by decide) _ _ _ rfl (hown.alloc _) ⟨wr.heap.size, 0, none⟩ 1 1 [.string (s.extract a k)] rfl rfl ?c1 ?c2 ?c3 ?c4 ?c5 ?_)
        case c1 =>
          intro j u hj
          match j, hj with
          | 0, hj => simp at hj; subst hj; rw [addN]; simp [go_sem]
        case c2 => intro u hu; simp at hu; subst hu; rfl
        case c3 => unfold maxLen; omega
        case c4 => omega
        case c5 => have := hb.size; simp; omega
        intro v' w1 hown' hgrow _
        have hb1 : Below w.heap.size w w1 := (hb.alloc hb.size _).grown hgrow (by have := hb.size; simp; omega) (fun j hj => (hown.lt j hj).1)
        have hown1 : w1.ownsRow w.heap.size 9 1 v' (done ++ [s.extract a k]).length ((done ++ [s.extract a k]).map Value.string) := by
          rw [List.length_append, List.map_append]; exact hown'
        clear hown' hgrow
        go_wp2_with fail
        go_roundw
        case rel =>
          refine ⟨k + 1, k + 1, done ++ [s.extract a k], by omega, Nat.le_refl _, by go_num, by go_num, hown1, hb1, ?_, fun j _ h1 h2 => by omega, by simp; omega⟩
          rw [← HW.out, words_hit s a k ha hlt h32 (fun j h h1 h2 => HN.out j h h1 h2), List.append_assoc]; rfl
        case measure => simp [intOf]; omega
      · go_wp2_with fail
        go_roundw
        case rel =>
          refine ⟨k + 1, a, done, by omega, by omega, rfl, by go_num, hown, hb, HW.out, fun j h h1 h2 => ?_, by omega⟩
          by_cases e : j = k
          · subst e
            intro e
            rw [e] at h32
            simp at h32
          · exact HN.out j h h1 (by omega)
        case measure => simp [intOf]; omega
    · have q1 : ¬ (k : Int) < (s.size : Int) := by omega
      obtain rfl : k = s.size := by omega
      have hsl : ∀ W, (Instr.slice 9 (.string s) (some (.int .i64 a)) none none).run Tryd.prog W = .ok (.string (s.extract a s.size)) W := fun W => by
        rw [run_slice_string_from_if W 9 s .i64 _ Tryd.underlying9, if_pos ⟨by omega, by omega⟩]
        rfl
      go_wp2_with (at_builtin; refine wpList_append_own _ rfl _ _ 53 rfl w.heap.size 9 i0 (.string ⟨#[]⟩) 1 16 Tryd.underlying53 hi hz0 hz1 hz2 rfl (by decide) _ _ _ rfl (hown.alloc _) ⟨wr.heap.size, 0, none⟩ 1 1 [.string (s.extract a s.size)] rfl rfl ?e1 ?e2 ?e3 ?e4 ?e5 ?_)
      case e2 => rfl
      case e3 => unfold maxLen; omega
      case e4 => omega
      case e5 => have := hb.size; simp; omega
      intro v' w1 hown' hgrow _
      have hb1 : Below w.heap.size w w1 := (hb.alloc hb.size _).grown hgrow (by have := hb.size; simp; omega) (fun j hj => (hown.lt j hj).1)
      have hl : done ++ [s.extract a s.size] = wordsB s := by rw [← HW.out, words_end s a (fun j h h1 => HN.out j h h1 h)]
      have hown1 : w1.ownsRow w.heap.size 9 1 v' (wordsB s).length ((wordsB s).map Value.string) := by
        rw [← hl, List.length_append, List.map_append]; exact hown'
      have hpos : 0 < (wordsB s).length := by rw [← hl]; simp
      clear hown' hgrow hl
      obtain ⟨g, cap, rfl⟩ : ∃ g cap, v' = .slice (some ⟨g, 0, none⟩) (wordsB s).length cap := by
        rcases hown1.2 with ⟨_, h0⟩ | ⟨g, cap, cur, h, _⟩
        · omega
        · exact ⟨g, cap, h⟩
      go_wp2_with fail
      go_ret
      exact ⟨g, cap, rfl, texts_own hown1, hb1⟩
end Go.Proofs.YtlbanaoabifaiaaDoor
