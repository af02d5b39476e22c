/- Contracts of spec.l02Zero, l02One, l02Pair. -/
import Derived.Test.YtlpgkhdecccmlaaRConD
import Derived.Test.YtlpgkhdecccmlaaRExO
namespace Go.Proofs.YtlpgkhdecccmlaaR
open Go.RowKit

theorem l02Zero_any (w : World) : Calls Try.prog 134 #[] w fun e w' => e = .returned (.agg #[.int .i64 1, .int .i64 0, .slice none 0 0]) ∧ Below w.heap.size w w' := by
  go_enter Try.func134, Try.ntmps134
  go_wp2_with fail
  refine bodyPost_ret (v := .agg #[.int .i64 1, .int .i64 0, .slice none 0 0]) (by simp [results, Try.results134, go_sem]) rfl ⟨rfl, by go_grown⟩
theorem l02One_any (w : World) : Calls Try.prog 181 #[] w fun e w' => e = .returned (.agg #[.int .i64 2, .int .i64 0, .slice none 0 0]) ∧ Below w.heap.size w w' := by
  go_enter Try.func181, Try.ntmps181
  go_wp2_with fail
  refine bodyPost_ret (v := .agg #[.int .i64 2, .int .i64 0, .slice none 0 0]) (by simp [results, Try.results181, go_sem]) rfl ⟨rfl, by go_grown⟩

set_option maxRecDepth 100000 in
set_option maxHeartbeats 1000000 in
theorem l02Pair_any (kk k1 n1 : Int) (f1 : Fo) (k2 n2 : Int) (f2 : Fo) (A1 A2 : Option Addr) (C1 C2 lo : Nat) (w : World) (h1 : f1.LiesIn w lo w.heap.size A1) (h2 : f2.LiesIn w lo w.heap.size A2) (hlo : lo ≤ w.heap.size) :
    Calls Try.prog 117 #[.int .i64 kk, .agg #[.int .i64 k1, .int .i64 n1, .slice A1 f1.len C1], .agg #[.int .i64 k2, .int .i64 n2, .slice A2 f2.len C2]] w fun e w' =>
      ∃ Z, e = .returned (.agg #[.int .i64 kk, .int .i64 0, .slice Z 2 2]) ∧ (Fo.cons k1 n1 f1 (.cons k2 n2 f2 .nil)).LiesIn w' lo w'.heap.size Z ∧ Below w.heap.size w w' := by
  have H1 := Lib.hid h1; have H2 := Lib.hid h2; have HL := Lib.hid hlo
  clear h1 h2 hlo
  go_enter Try.func117, Try.ntmps117
  go_wp2_with fail
  refine bodyPost_ret (v := .agg #[.int .i64 kk, .int .i64 0, .slice (some ⟨w.heap.size + 1 + 1 + 1, 0, none⟩) 2 2]) (by simp [results, Try.results117, go_sem]) rfl ⟨_, rfl, ?_, by go_grown⟩
  have hbel : Below w.heap.size w ((((w.alloc (.cells #[.int .i64 k1, .int .i64 n1, .slice A1 f1.len C1] 35)).alloc (.cells #[.int .i64 k2, .int .i64 n2, .slice A2 f2.len C2] 35)).alloc (.cells #[.int .i64 kk, .int .i64 0, .slice (some ⟨w.heap.size + 1 + 1 + 1, 0, none⟩) 2 2] 35)).alloc (.cells #[.int .i64 k1, .int .i64 n1, .slice A1 f1.len C1, .int .i64 k2, .int .i64 n2, .slice A2 f2.len C2] 35)) := by go_grown
  have hl := HL.out
  exact Fo.LiesIn.two H1.out H2.out ((Fo.Agree.of_below hbel).mono (Nat.zero_le _) (Nat.le_refl _)) (heap_new _ _ _ (by simp)) (by omega) (by simp) (by simp; omega)
end Go.Proofs.YtlpgkhdecccmlaaR
