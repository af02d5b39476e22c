/- Contract of the function literal of impl.writeProg: the next word is written, and taken away. -/
import Derived.Test.YtcgbepmhfimbjaaDoorPtB
import Derived.StillTailTactics
namespace Go.Proofs.YtcgbepmhfimbjaaDoor
open Go.RowKit
set_option linter.unusedVariables false

theorem Wrote.undrew {B : Nat} {l : List UInt8} {a b : World} (h : Wrote B l a.drew b) : Wrote B l a b := ⟨h.bld, ⟨h.below.os, h.below.tape, h.below.output, h.below.size, h.below.block⟩, h.kept⟩
set_option maxHeartbeats 1000000 in
set_option maxRecDepth 100000 in
theorem word_1 {B bo bw b o : Nat} {l s : List UInt8} {w : World} (h : Bld B l w) (hbo : w.heap[bo]? = some (.cells #[.pointer (some ⟨B, 0, none⟩)] 68 (0, 0))) (hbw : w.heap[bw]? = some (.cells #[.slice (some ⟨b, o, none⟩) 1 1] 114 (0, 0))) (hc : w.cell? ⟨b, o, none⟩ = some (str s)) (hB : B < bw) (hl : l.length + s.length ≤ 140737488355328) :
    Calls Tryd.prog 62 #[.pointer (some ⟨bo, 0, none⟩), .pointer (some ⟨bw, 0, none⟩)] w fun e w' => e = .returned (.tuple #[]) ∧ WroteW B bw (l ++ s) (.slice (some ⟨b, o, none⟩) 0 0) 114 w w' := by
  have K1 : Hid (∀ W : World, W.heap = w.heap → Bld B l W → Calls Tryd.prog 63 #[.pointer (some ⟨B, 0, none⟩), str s] W fun e w' => (∃ z, e = .returned (.tuple #[.int .i64 z, .nilIface])) ∧ Wrote B (l ++ s) W w') := fun W _ hW => write_any s hW hl
  have HBW := Lib.hid hbw; have HD := Lib.hid h.drew; have HB := Lib.hid hB
  have g0 := Fo.cell_of_block hbo 0; have g1 := Fo.cell_of_block hbw 0
  generalize str s = v at K1 hc
  clear hbo hbw h hl hB
  go_enter Tryd.func62, Tryd.ntmps62
  go_wp2_with fail
  go_still_tail 4, (by kernel_rfl)
  change wpList _ _ _ _ _ w.drew
  clear g0 g1 hc
  go_wp2_with fail
  refine (K1.out w.drew rfl HD.out).mono ?_
  rintro e w1 ⟨⟨z, rfl⟩, hw1⟩
  have hb1 := hw1.one (a := w.drew) HBW.out (by decide) (Nat.ne_of_gt HB.out)
  have g1 := Fo.cell_of_block hb1 0; have f1 := Fo.unfrozen_of_block hb1 0
  have HW1 := Lib.hid hw1.undrew
  clear hw1 hb1 K1
  go_wp2_with fail
  go_end0
  exact ⟨rfl, WroteW.of HW1.out HBW.out (by decide) HB.out⟩
set_option maxHeartbeats 1000000 in
set_option maxRecDepth 100000 in
theorem word_2 {B bo bw b o : Nat} {l s : List UInt8} {w : World} (h : Bld B l w) (hbo : w.heap[bo]? = some (.cells #[.pointer (some ⟨B, 0, none⟩)] 68 (0, 0))) (hbw : w.heap[bw]? = some (.cells #[.slice (some ⟨b, o, none⟩) 2 2] 114 (0, 0))) (hc : w.cell? ⟨b, o, none⟩ = some (str s)) (hB : B < bw) (hl : l.length + s.length ≤ 140737488355328) :
    Calls Tryd.prog 62 #[.pointer (some ⟨bo, 0, none⟩), .pointer (some ⟨bw, 0, none⟩)] w fun e w' => e = .returned (.tuple #[]) ∧ WroteW B bw (l ++ s) (.slice (some ⟨b, o + 1, none⟩) 1 1) 114 w w' := by
  have K1 : Hid (∀ W : World, W.heap = w.heap → Bld B l W → Calls Tryd.prog 63 #[.pointer (some ⟨B, 0, none⟩), str s] W fun e w' => (∃ z, e = .returned (.tuple #[.int .i64 z, .nilIface])) ∧ Wrote B (l ++ s) W w') := fun W _ hW => write_any s hW hl
  have HBW := Lib.hid hbw; have HD := Lib.hid h.drew; have HB := Lib.hid hB
  have g0 := Fo.cell_of_block hbo 0; have g1 := Fo.cell_of_block hbw 0
  generalize str s = v at K1 hc
  clear hbo hbw h hl hB
  go_enter Tryd.func62, Tryd.ntmps62
  go_wp2_with fail
  go_still_tail 4, (by kernel_rfl)
  change wpList _ _ _ _ _ w.drew
  clear g0 g1 hc
  go_wp2_with fail
  refine (K1.out w.drew rfl HD.out).mono ?_
  rintro e w1 ⟨⟨z, rfl⟩, hw1⟩
  have hb1 := hw1.one (a := w.drew) HBW.out (by decide) (Nat.ne_of_gt HB.out)
  have g1 := Fo.cell_of_block hb1 0; have f1 := Fo.unfrozen_of_block hb1 0
  have HW1 := Lib.hid hw1.undrew
  clear hw1 hb1 K1
  go_wp2_with fail
  go_end0
  exact ⟨rfl, WroteW.of HW1.out HBW.out (by decide) HB.out⟩
set_option maxHeartbeats 1000000 in
set_option maxRecDepth 100000 in
theorem word_3 {B bo bw b o : Nat} {l s : List UInt8} {w : World} (h : Bld B l w) (hbo : w.heap[bo]? = some (.cells #[.pointer (some ⟨B, 0, none⟩)] 68 (0, 0))) (hbw : w.heap[bw]? = some (.cells #[.slice (some ⟨b, o, none⟩) 3 3] 114 (0, 0))) (hc : w.cell? ⟨b, o, none⟩ = some (str s)) (hB : B < bw) (hl : l.length + s.length ≤ 140737488355328) :
    Calls Tryd.prog 62 #[.pointer (some ⟨bo, 0, none⟩), .pointer (some ⟨bw, 0, none⟩)] w fun e w' => e = .returned (.tuple #[]) ∧ WroteW B bw (l ++ s) (.slice (some ⟨b, o + 1, none⟩) 2 2) 114 w w' := by
  have K1 : Hid (∀ W : World, W.heap = w.heap → Bld B l W → Calls Tryd.prog 63 #[.pointer (some ⟨B, 0, none⟩), str s] W fun e w' => (∃ z, e = .returned (.tuple #[.int .i64 z, .nilIface])) ∧ Wrote B (l ++ s) W w') := fun W _ hW => write_any s hW hl
  have HBW := Lib.hid hbw; have HD := Lib.hid h.drew; have HB := Lib.hid hB
  have g0 := Fo.cell_of_block hbo 0; have g1 := Fo.cell_of_block hbw 0
  generalize str s = v at K1 hc
  clear hbo hbw h hl hB
  go_enter Tryd.func62, Tryd.ntmps62
  go_wp2_with fail
  go_still_tail 4, (by kernel_rfl)
  change wpList _ _ _ _ _ w.drew
  clear g0 g1 hc
  go_wp2_with fail
  refine (K1.out w.drew rfl HD.out).mono ?_
  rintro e w1 ⟨⟨z, rfl⟩, hw1⟩
  have hb1 := hw1.one (a := w.drew) HBW.out (by decide) (Nat.ne_of_gt HB.out)
  have g1 := Fo.cell_of_block hb1 0; have f1 := Fo.unfrozen_of_block hb1 0
  have HW1 := Lib.hid hw1.undrew
  clear hw1 hb1 K1
  go_wp2_with fail
  go_end0
  exact ⟨rfl, WroteW.of HW1.out HBW.out (by decide) HB.out⟩
set_option maxHeartbeats 1000000 in
set_option maxRecDepth 100000 in
theorem word_4 {B bo bw b o : Nat} {l s : List UInt8} {w : World} (h : Bld B l w) (hbo : w.heap[bo]? = some (.cells #[.pointer (some ⟨B, 0, none⟩)] 68 (0, 0))) (hbw : w.heap[bw]? = some (.cells #[.slice (some ⟨b, o, none⟩) 4 4] 114 (0, 0))) (hc : w.cell? ⟨b, o, none⟩ = some (str s)) (hB : B < bw) (hl : l.length + s.length ≤ 140737488355328) :
    Calls Tryd.prog 62 #[.pointer (some ⟨bo, 0, none⟩), .pointer (some ⟨bw, 0, none⟩)] w fun e w' => e = .returned (.tuple #[]) ∧ WroteW B bw (l ++ s) (.slice (some ⟨b, o + 1, none⟩) 3 3) 114 w w' := by
  have K1 : Hid (∀ W : World, W.heap = w.heap → Bld B l W → Calls Tryd.prog 63 #[.pointer (some ⟨B, 0, none⟩), str s] W fun e w' => (∃ z, e = .returned (.tuple #[.int .i64 z, .nilIface])) ∧ Wrote B (l ++ s) W w') := fun W _ hW => write_any s hW hl
  have HBW := Lib.hid hbw; have HD := Lib.hid h.drew; have HB := Lib.hid hB
  have g0 := Fo.cell_of_block hbo 0; have g1 := Fo.cell_of_block hbw 0
  generalize str s = v at K1 hc
  clear hbo hbw h hl hB
  go_enter Tryd.func62, Tryd.ntmps62
  go_wp2_with fail
  go_still_tail 4, (by kernel_rfl)
  change wpList _ _ _ _ _ w.drew
  clear g0 g1 hc
  go_wp2_with fail
  refine (K1.out w.drew rfl HD.out).mono ?_
  rintro e w1 ⟨⟨z, rfl⟩, hw1⟩
  have hb1 := hw1.one (a := w.drew) HBW.out (by decide) (Nat.ne_of_gt HB.out)
  have g1 := Fo.cell_of_block hb1 0; have f1 := Fo.unfrozen_of_block hb1 0
  have HW1 := Lib.hid hw1.undrew
  clear hw1 hb1 K1
  go_wp2_with fail
  go_end0
  exact ⟨rfl, WroteW.of HW1.out HBW.out (by decide) HB.out⟩
end Go.Proofs.YtcgbepmhfimbjaaDoor
