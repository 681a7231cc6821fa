/- The lists that stage 7's statements draw: l07DrawFrame. Condition: the code's bytes lie in memory. -/
import Derived.Test.YtepfnnhmplaocaaDoorQT
import Derived.Test.YtepfnnhmplaocaaDoorQJ
import Derived.Test.YtepfnnhmplaocaaDoorQV
namespace Go.Proofs.YtepfnnhmplaocaaDoor
open Go.RowKit
set_option linter.unusedVariables false
set_option linter.unusedSimpArgs false
attribute [local go_sem ↓] Go.wp_at_zero Go.wp_at_succ

theorem SrcAt.join {B g : Nat} {w0 w1 w2 : World} {a : Option Addr} {len cap : Nat} (h : SrcAt B g w0 w1 a len cap) (k : SrcAt B g w1 w2 a len cap) : SrcAt B g w0 w2 a len cap := ⟨h.1.trans k.1, k.2⟩
set_option maxHeartbeats 4000000 in
theorem drawFrame_any (B g : Nat) (a : Option Addr) (len cap : Nat) (w : World) (hlen : len ≤ 8192) (hB : B ≤ w.heap.size) (hg : B ≤ g) (hA : SrcAt B g w w a len cap) :
    Calls Tryd.prog 66 #[.pointer (some ⟨g, 0, none⟩)] w (DrawnL B g w w a len cap) := by
  have hgl := hA.2.1.lt
  have A0 := Lib.hid hA
  clear hA
  go_enter Tryd.func66, Tryd.ntmps66
  go_wp2_with fail
  refine (drawRegion_any B g a len cap w w hlen hB hg A0.out).mono ?_
  rintro e w1 ⟨h1, c1, f1, rfl, hI1, hA1⟩
  have I1 := Lib.hid hI1
  have A1 := Lib.hid hA1
  have l1 := hA1.1.size
  have n1 := canonL_len f1
  have v1 : Hid (∀ i, i < (canonL f1).length → rvB (pA (canonL f1) i) (pB (canonL f1) i) (pC (canonL f1) i) (pD (canonL f1) i) = true) := Lib.hid (canonL_valid_at f1)
  clear hI1 hA1
  go_wp2_with fail
  refine (A1.out.next2 2 hlen hg (by omega) (by omega)).mono ?_
  rintro e w2 ⟨⟨r2, p2, q2, rfl⟩, on2, hA2⟩
  have I2 := Lib.hid (I1.out.only on2 hgl)
  have A2 := Lib.hid hA2
  have l2 := on2.size
  clear hA2 on2 I1 A1
  by_cases hr : r2 = 0
  · subst hr
    go_wp2_with fail
    refine (drawRegion_any B g a len cap w2 w2 hlen (by omega) hg A2.out.rebase).mono ?_
    rintro e w3 ⟨h3, c3, f3, rfl, hI3, hA3⟩
    have hA3on := hA3.1
    have hA3 := SrcAt.join A2.out hA3
    have I3 := Lib.hid hI3
    have I23 := Lib.hid (I2.out.only hA3on hgl)
    have A3 := Lib.hid hA3
    have n3 := canonL_len f3
    have v3 : Hid (∀ i, i < (canonL f3).length → rvB (pA (canonL f3) i) (pB (canonL f3) i) (pC (canonL f3) i) (pD (canonL f3) i) = true) := Lib.hid (canonL_valid_at f3)
    have l3 := hA3on.size
    clear hI3 hA3 hA3on I2 A2
    go_wp2_with fail
    refine (l04Op_any (some ⟨h1, 0, none⟩) (canonL f1).length c1 _ _ _ _ (some ⟨h3, 0, none⟩) (canonL f3).length c3 _ _ _ _ 4 (by decide) _ (by omega) (by omega) I23.out.rects I3.out.rects v1.out v3.out).mono ?_
    rintro e w4 ⟨⟨h4, c4, rfl, hI4⟩, bw4⟩
    have I4 := Lib.hid hI4
    have A4 := Lib.hid (A3.out.ext bw4)
    clear hI4 bw4
    go_wp2_with fail
    go_ret
    exact ⟨h4, c4, _, rfl, I4.out.lower (by omega), A4.out⟩
  · have hb : (r2 == 0) = false := by simpa using hr
    go_wp2_with fail
    go_ret
    exact ⟨h1, c1, f1, rfl, I2.out, A2.out⟩
def DrawnRes (w : World) (e : Ending) (w' : World) : Prop := ∃ (v : Value) (l : List R4), e = .returned v ∧ DrawnOne w.heap.size w' v l ∧ Below w.heap.size w w'
theorem oneRects {w : World} {b : Nat} {p q r s : Int} (hb : w.heap[b]? = some (.cells #[.int .i64 p, .int .i64 q, .int .i64 r, .int .i64 s] 39 (0, 0))) : RectsIs w.heap.size w (some ⟨b, 0, none⟩) 1 (fun _ => p) (fun _ => q) (fun _ => r) (fun _ => s) := fun i hi => by
  obtain rfl : i = 0 := by omega
  have h := World.news_of_block hb
  have k : ∀ j u, (#[Value.int .i64 p, .int .i64 q, .int .i64 r, .int .i64 s] : Array Value).toList[j]? = some u → w.cell? ⟨b, j, none⟩ = some u := fun j u hj => by have := h j u hj; rw [addG] at this; exact this
  exact ⟨b, 0, rfl, World.block_lt_of_cell? w ⟨b, 0, none⟩ (k 0 _ rfl), k 0 _ rfl, k 1 _ rfl, k 2 _ rfl, k 3 _ rfl⟩
end Go.Proofs.YtepfnnhmplaocaaDoor
