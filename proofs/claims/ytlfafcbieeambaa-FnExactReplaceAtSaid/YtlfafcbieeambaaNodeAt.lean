/- Contract of impl.nodeAt. -/
import Derived.Test.YtlfafcbieeambaaPath
import Derived.Test.YtlfafcbieeambaaExO
import Derived.RegionTactic
import Derived.BigRegion
namespace Go.Proofs.Ytlfafcbieeambaa
open Go.RowKit

/-- What nodeAt hands back. -/
def NAEnd (o : Option (Int × Int × Fo × Bool)) (w : World) (e : Ending) (w' : World) : Prop :=
  (∃ k n f b A C, o = some (k, n, f, b) ∧ e = .returned (.tuple #[.agg #[.int .i64 k, .int .i64 n, .slice A f.len C], .bool b, .bool true]) ∧ f.Lies w A ∧ Below w.heap.size w w') ∨
  (o = none ∧ e = .returned (.tuple #[.agg #[.int .i64 0, .int .i64 0, .slice none 0 0], .bool false, .bool false]) ∧ Below w.heap.size w w')

set_option maxRecDepth 100000 in
set_option maxHeartbeats 2000000 in
theorem nodeAt_any (xs : List Int) (hx : xs.length ≤ 9223372036854775807) (k n : Int) (f : Fo) (hm : f.nodes ≤ 1048576) (A : Option Addr) (C : Nat) (P : Option Addr) (D : Nat) (w : World) (hl : f.Lies w A) (hp : Ints w xs P) :
    Calls Try.prog 108 #[.agg #[.int .i64 k, .int .i64 n, .slice A f.len C], .slice P xs.length D] w (NAEnd (walkP xs k n f false) w) := by
  obtain ⟨O, hO⟩ : ∃ O, O = walkP xs k n f false := ⟨_, rfl⟩
  rw [← hO]
  have HO : Hid (O = walkP (xs.drop 0) k n f false) := hO
  clear hO
  have HL := Lib.hid hl
  clear hl
  go_enter Try.func108, Try.ntmps108
  go_wp2_with fail
  go_loopw [5, 11] (fun b i wr => ∃ (j : Nat) (q : Bool) (k1 n1 : Int) (f1 : Fo) (A1 : Option Addr) (C1 : Nat), j ≤ xs.length ∧ b = .bool q ∧ i = .int .i64 j ∧ Hid (O = walkP (xs.drop j) k1 n1 f1 q) ∧ f1.nodes ≤ 1048576 ∧ Hid (f1.Lies w A1) ∧ Hid (wr.heap[w.heap.size]? = some (.cells #[.int .i64 k1, .int .i64 n1, .slice A1 f1.len C1] 31 (0, 0))) ∧ Hid (wr.heap[w.heap.size + 1]? = some (.cells #[.int .i64 0, .int .i64 0, .slice none 0 0] 31 (0, 0))) ∧ Hid (Sees w wr)) (fun _ i _ => xs.length - (intOf i).toNat)
  case atStart =>
    refine ⟨0, false, k, n, f, A, C, Nat.zero_le _, rfl, rfl, HO, hm, HL, ?_, ?_, ?_⟩
    · show _ = _; exact (Below.heap_alloc _ _ _ (by simp)).trans (heap_new _ _ _ rfl)
    · show _ = _; exact heap_new _ _ _ (by simp)
    · show Below _ _ _; go_grown
  case round =>
    obtain ⟨j, q, k1, n1, f1, A1, C1, hj, rfl, rfl, hO, hm1, hl1, hBe, hBr, hS⟩ := hrel
    clear HO HL
    obtain ⟨x0, x1, x2, y0, y1, y2⟩ := cells3 hBe.out
    obtain ⟨u0, u1, u2, v0, v1, v2⟩ := cells3 hBr.out
    have zr : w.heap.size + 1 < wr.heap.size := (Array.getElem?_eq_some_iff.1 hBr.out).1
    have hln := f1.len_le_nodes
    by_cases hjl : j < xs.length
    · obtain ⟨pb, po, rfl, hc⟩ := hp (by rintro rfl; simp at hjl)
      have pc0 := hc j hjl
      have pc := (hS.out.cell (p := ⟨pb, po + j, none⟩) (World.block_lt_of_cell? _ _ pc0)).trans pc0
      clear pc0
      obtain ⟨x, hx1⟩ : ∃ x : Int, x = nth xs j := ⟨_, rfl⟩
      rw [← hx1] at pc
      obtain ⟨q1, hq1⟩ : ∃ q1 : Bool, q1 = belowB x (f1.len : Int) := ⟨_, rfl⟩
      have KB : Hid (∀ W : World, Calls Try.prog 66 #[.int .i64 x, .int .i64 (f1.len : Int)] W fun e w' => e = .returned (.bool q1) ∧ W = w') := fun W => by rw [hq1]; exact below_any x (f1.len : Int) W
      have HX := Lib.hid hx1
      clear hx1
      by_cases hin : 0 ≤ x ∧ x < (f1.len : Int)
      · have hq2 : q1 = true := by rw [hq1]; exact decide_eq_true hin
        subst hq2
        obtain ⟨k2, n2, f2, r2, e1, _⟩ := f1.drop_lt x.toNat (by omega)
        obtain ⟨b', o', rfl, hat⟩ := hl1.out (by rintro rfl; simp [Fo.len] at hin; omega)
        have hat2 := Fo.at_drop hat x.toNat
        rw [e1] at hat2
        obtain ⟨c0, c1, ⟨A', C', c2, hl2'⟩, _⟩ := hat2
        have lb : b' < w.heap.size := World.block_lt_of_cell? _ _ c0
        have hnd := f1.nodes_drop x.toNat
        rw [e1] at hnd
        simp only [Fo.nodes] at hnd
        have d0 := (hS.out.cell (p := ⟨b', o' + x.toNat * 3, none⟩) lb).trans c0
        have d1 := (hS.out.cell (p := ⟨b', o' + x.toNat * 3 + 1, none⟩) lb).trans c1
        have d2 := (hS.out.cell (p := ⟨b', o' + x.toNat * 3 + 2, none⟩) lb).trans c2
        have hO2 : Hid (O = walkP (xs.drop (j + 1)) k2 n2 f2 (q || k1 == 5)) := by
          show _ = _; rw [hO.out]; exact walkP_step hjl (by rw [← HX.out]; exact hin.1) (by rw [← HX.out]; exact hin.2) (by rw [← HX.out]; exact e1)
        have HL2 : Hid (f2.Lies w A') := hl2'
        obtain ⟨hi0, hi1⟩ := hin
        have HN : f2.nodes ≤ 1048576 := by omega
        clear hq1 c0 c1 c2 hl2' hat e1 hnd hO hc
        have hfin : ∀ (W : World), (W = (((wr.setCell ⟨w.heap.size, 0, none⟩ (.int .i64 k2)).setCell ⟨w.heap.size, 1, none⟩ (.int .i64 n2)).setCell ⟨w.heap.size, 2, none⟩ (.slice A' f2.len C')).drew) →
            Hid (W.heap[w.heap.size]? = some (.cells #[.int .i64 k2, .int .i64 n2, .slice A' f2.len C'] 31 (0, 0))) ∧ Hid (W.heap[w.heap.size + 1]? = some (.cells #[.int .i64 0, .int .i64 0, .slice none 0 0] 31 (0, 0))) ∧ Hid (Sees w W) := by
          rintro W rfl
          refine ⟨?_, ?_, ?_⟩
          · show ((((wr.setCell _ _).setCell _ _).setCell _ _)).heap[_]? = _
            rw [Fo.block_setCell (Fo.block_setCell (Fo.block_setCell hBe.out _) _) _]; rfl
          · show ((((wr.setCell _ _).setCell _ _).setCell _ _)).heap[_]? = _
            rw [Below.heap_setCell _ _ _ _ (by show w.heap.size + 1 ≠ w.heap.size; omega), Below.heap_setCell _ _ _ _ (by show w.heap.size + 1 ≠ w.heap.size; omega), Below.heap_setCell _ _ _ _ (by show w.heap.size + 1 ≠ w.heap.size; omega)]
            exact hBr.out
          · exact (Below.setCell (Below.setCell (Below.setCell hS.out (Nat.le_refl _) _) (Nat.le_refl _) _) (Nat.le_refl _) _).drew
        have HF := Lib.hid hfin
        clear hfin hBe hBr
        cases q
        · by_cases h5 : k1 = 5
          · have t5 : (k1 == 5) = true := by simp [h5]
            have hO3 : Hid (O = walkP (xs.drop (j + 1)) k2 n2 f2 true) := by show _ = _; rw [hO2.out, t5]; rfl
            have H5 : decide (k1 = 5) = true := decide_eq_true h5
            clear hO2 h5
            go_wp2_with (go_at_call 66; refine (KB.out _).mono ?_; rintro e w' ⟨rfl, rfl⟩)
            go_region
            all_goals
              go_wp2_with fail
              go_roundw
              case rel => exact ⟨j + 1, true, k2, n2, f2, A', C', by omega, rfl, by go_num, hO3, HN, HL2, HF.out _ rfl⟩
              case measure => simp [intOf]; omega
          · have t5 : (k1 == 5) = false := by rw [beq_eq_false_iff_ne]; exact h5
            have hO3 : Hid (O = walkP (xs.drop (j + 1)) k2 n2 f2 false) := by show _ = _; rw [hO2.out, t5]; rfl
            have H5 : decide (k1 = 5) = false := decide_eq_false h5
            clear hO2 h5
            go_wp2_with (go_at_call 66; refine (KB.out _).mono ?_; rintro e w' ⟨rfl, rfl⟩)
            go_region
            all_goals
              go_wp2_with fail
              go_roundw
              case rel => exact ⟨j + 1, false, k2, n2, f2, A', C', by omega, rfl, by go_num, hO3, HN, HL2, HF.out _ rfl⟩
              case measure => simp [intOf]; omega
        · have hO3 : Hid (O = walkP (xs.drop (j + 1)) k2 n2 f2 true) := hO2
          clear hO2
          go_wp2_with (go_at_call 66; refine (KB.out _).mono ?_; rintro e w' ⟨rfl, rfl⟩)
          go_region
          all_goals
            go_wp2_with fail
            go_roundw
            case rel => exact ⟨j + 1, true, k2, n2, f2, A', C', by omega, rfl, by go_num, hO3, HN, HL2, HF.out _ rfl⟩
            case measure => simp [intOf]; omega
      · have hq2 : q1 = false := by rw [hq1]; exact decide_eq_false hin
        subst hq2
        have hO2 : Hid (O = none) := by
          show _ = _; rw [hO.out]; exact walkP_no hjl (by rw [← HX.out]; exact hin)
        clear hq1 hin hO
        go_wp2_with (go_at_call 66; refine (KB.out _).mono ?_; rintro e w' ⟨rfl, rfl⟩)
        have HBF : (((wr.setCell ⟨w.heap.size + 1, 0, none⟩ (.int .i64 0)).setCell ⟨w.heap.size + 1, 1, none⟩ (.int .i64 0)).setCell ⟨w.heap.size + 1, 2, none⟩ (.slice none 0 0)).heap[w.heap.size + 1]? = some (.cells #[(.int .i64 0), (.int .i64 0), .slice none 0 0] 31 (0, 0)) := by
          rw [Fo.block_setCell (Fo.block_setCell (Fo.block_setCell hBr.out _) _) _]; rfl
        obtain ⟨d0, d1, d2, _⟩ := cells3 HBF
        refine bodyPost_ret (v := .tuple #[.agg #[(.int .i64 0), (.int .i64 0), .slice none 0 0], .bool false, .bool false]) (by simp [results, Try.results108, go_sem, d0, d1, d2]) rfl ?_
        exact Or.inr ⟨hO2.out, rfl, Below.setCell (Below.setCell (Below.setCell hS.out (by show w.heap.size ≤ w.heap.size + 1; omega) _) (by show w.heap.size ≤ w.heap.size + 1; omega) _) (by show w.heap.size ≤ w.heap.size + 1; omega) _⟩
    · obtain rfl : j = xs.length := by omega
      have hO2 : Hid (O = some (k1, n1, f1, q)) := by show _ = _; rw [hO.out]; exact walkP_end _ _ _ _ _
      clear hO
      go_wp2_with fail
      have HBF : (((wr.setCell ⟨w.heap.size + 1, 0, none⟩ (.int .i64 k1)).setCell ⟨w.heap.size + 1, 1, none⟩ (.int .i64 n1)).setCell ⟨w.heap.size + 1, 2, none⟩ (.slice A1 f1.len C1)).heap[w.heap.size + 1]? = some (.cells #[(.int .i64 k1), (.int .i64 n1), .slice A1 f1.len C1] 31 (0, 0)) := by
        rw [Fo.block_setCell (Fo.block_setCell (Fo.block_setCell hBr.out _) _) _]; rfl
      obtain ⟨d0, d1, d2, _⟩ := cells3 HBF
      refine bodyPost_ret (v := .tuple #[.agg #[(.int .i64 k1), (.int .i64 n1), .slice A1 f1.len C1], .bool q, .bool true]) (by simp [results, Try.results108, go_sem, d0, d1, d2]) rfl ?_
      exact Or.inl ⟨k1, n1, f1, q, A1, C1, hO2.out, rfl, hl1.out, Below.setCell (Below.setCell (Below.setCell hS.out (by show w.heap.size ≤ w.heap.size + 1; omega) _) (by show w.heap.size ≤ w.heap.size + 1; omega) _) (by show w.heap.size ≤ w.heap.size + 1; omega) _⟩
end Go.Proofs.Ytlfafcbieeambaa
