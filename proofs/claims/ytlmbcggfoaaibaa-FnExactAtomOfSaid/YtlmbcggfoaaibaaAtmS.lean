/- Contracts of spec.l05Atom, spec.AtomOf. -/
import Derived.Test.YtlmbcggfoaaibaaAtmD
import Derived.Test.YtlmbcggfoaaibaaVMS
import Derived.Deep.DrawnRows
namespace Go.Proofs.Ytlmbcggfoaaibaa
open Go.RowKit
attribute [local go_sem ↓] Go.wp_at_zero Go.wp_at_succ

set_option maxHeartbeats 2000000 in
set_option maxRecDepth 100000 in
theorem specl05Atom_any (ac : List (List Bool)) (h3 : ac.length ≤ 3) (X : Nat) (hX : ∀ r ∈ ac, X < r.length) (h8 : ∀ r ∈ ac, r.length ≤ 8) (A : Option Addr) (C : Nat) (w : World) (hA : BB 0 w ac A) :
    Calls Try.prog 76 #[.slice A ac.length C, .int .i64 (X : Int)] w fun e w' => e = .returned (.int .i64 (atmF ac X ac.length)) ∧ Below w.heap.size w w' := by
  have HA := Lib.hid hA; have HX := Lib.hid hX; have H8 := Lib.hid h8
  clear hA hX h8
  go_enter Try.func76, Try.ntmps76
  go_wp2_with fail
  go_loopw [5, 6] (fun s i wr => ∃ (j : Nat) (q : Int), j ≤ ac.length ∧ i = .int .i64 j ∧ s = .int .i64 q ∧ Hid (q = atmF ac X j) ∧ Hid (Below w.heap.size w wr)) (fun _ i _ => ac.length - (intOf i).toNat)
  case atStart => exact ⟨0, 0, Nat.zero_le _, rfl, rfl, rfl, Below.refl _ _⟩
  case round =>
    obtain ⟨j, q, hj, rfl, rfl, hq, hw⟩ := hrel
    by_cases hjl : j < ac.length
    · obtain ⟨b, o, _, rfl, hat⟩ := HA.out (by rintro rfl; simp at hjl)
      obtain ⟨B, D, c0', hQ⟩ := hat j ac[j] (List.getElem?_eq_getElem hjl)
      have hxl := HX.out ac[j] (List.getElem_mem hjl)
      have hl8 := H8.out ac[j] (List.getElem_mem hjl)
      have hget : ac.getD j [] = ac[j] := by simp [List.getD, hjl]
      obtain ⟨x, hx⟩ : ∃ x, x = ac[j] := ⟨_, rfl⟩
      rw [← hx] at c0' hQ hxl hget hl8
      obtain ⟨b', o', _, rfl, hat'⟩ := hQ (by rintro rfl; simp at hxl)
      have d0' := hat' X x[X] (List.getElem?_eq_getElem hxl)
      have hgx : x.getD X false = x[X] := by simp [List.getD, hxl]
      obtain ⟨v, hv⟩ : ∃ v, v = x[X] := ⟨_, rfl⟩
      rw [← hv] at d0' hgx
      have c0 := kc hw.out c0'
      have d0 := kc hw.out d0'
      have HAT := Lib.hid hat; have HAT2 := Lib.hid hat'; have HG := Lib.hid hget; have HGX := Lib.hid hgx; have HXX := Lib.hid hx; have HV := Lib.hid hv
      have j0 : (0 : Int) ≤ (j : Int) := Int.natCast_nonneg _
      have j1 : (j : Int) < (ac.length : Int) := by omega
      have x0 : (0 : Int) ≤ (X : Int) := Int.natCast_nonneg _
      have x1 : (X : Int) < (x.length : Int) := by omega
      clear hat hat' c0' d0' hget hgx hx hv hQ
      cases v
      · have hq2 : Hid (q = atmF ac X (j + 1)) := by
          show _ = _
          unfold atmF
          rw [HG.out, HGX.out, if_neg (by decide)]
          exact hq.out
        clear hq
        go_wp2_with fail
        go_roundw
        case rel => exact ⟨j + 1, q, by omega, by go_num, rfl, hq2, hw⟩
        case measure => simp [intOf]; omega
      · have hq2 : Hid (bits .or .i64 q (if j = 0 then 1 else if j = 1 then 2 else 4) = atmF ac X (j + 1)) := by
          show _ = _
          conv => rhs; unfold atmF
          rw [HG.out, HGX.out, if_pos rfl, hq.out]
        clear hq
        go_wp2_with fail
        go_roundw
        case rel =>
          refine ⟨j + 1, _, by omega, by go_num, rfl, ?_, hw⟩
          show _ = _
          rw [← hq2.out]
          have h012 : j = 0 ∨ j = 1 ∨ j = 2 := by omega
          rcases h012 with rfl | rfl | rfl <;> exact congrArg (bits .or .i64 q) (by decide +kernel)
        case measure => simp [intOf]; omega
    · obtain rfl : j = ac.length := by omega
      go_wp2_with fail
      go_ret
      exact ⟨ret_int hq.out, hw.out⟩

set_option maxHeartbeats 2000000 in
set_option maxRecDepth 100000 in
theorem specAtomOf_any (t a p : Int) (ac : List (List Bool)) (nx : List (List (List Bool))) (x : Int) (wx : (Lit.int .i64 x).wf = true) (hs : SmallM ac nx) (A B : Option Addr) (C D : Nat) (w : World) (hA : BB 0 w ac A) (hB : BBB 0 w nx B) :
    Calls Try.prog 25 #[.agg #[.int .i64 t, .int .i64 a, .int .i64 p, .slice A ac.length C, .slice B nx.length D], .int .i64 x] w fun e w' => e = .returned (.tuple #[.int .i64 (atO t a p ac nx x).1, .int .i64 (atO t a p ac nx x).2]) ∧ Below w.heap.size w w' := by
  obtain ⟨q1, hq1⟩ : ∃ q1 : Bool, q1 = validM t a p ac nx := ⟨_, rfl⟩
  have K1 : Hid (∀ W : World, St w [(w.heap.size, 0, .int .i64 t), (w.heap.size, 1, .int .i64 a), (w.heap.size, 2, .int .i64 p), (w.heap.size, 3, .slice A ac.length C), (w.heap.size, 4, .slice B nx.length D)] W → Calls Try.prog 57 #[.pointer (some ⟨w.heap.size, 0, none⟩)] W fun e w' => e = .returned (.bool q1) ∧ Below W.heap.size W w') := fun W h => by
    rw [hq1]
    exact l05Ok_any t a p ac nx hs A B C D _ W (bb_ok.below hA h.1) (bbb_ok.below hB h.1) h.2.1 h.2.2.1 h.2.2.2.1 h.2.2.2.2.1 h.2.2.2.2.2.1
  cases q1
  · have HE : Hid ((atO t a p ac nx x).1 = 0 ∧ (atO t a p ac nx x).2 = 1) := by rw [atO_bad hq1.symm]; exact ⟨rfl, rfl⟩
    clear hA hB hs hq1
    go_enter Try.func25, Try.ntmps25
    go_wp2_with fail
    refine (K1.out _ ⟨(by unfold Sees; go_grown), (by simp [go_sem]), (by simp [go_sem]), (by simp [go_sem]), (by simp [go_sem]), (by simp [go_sem]), trivial⟩).mono ?_
    rintro e w1 ⟨rfl, hb⟩
    have B1 : Sees w w1 := Sees.below (by unfold Sees; go_grown) hb
    clear hb
    go_wp2_with fail
    go_ret2
    exact ⟨ret_ii HE.out.1.symm HE.out.2.symm, B1⟩
  have hbd := validM_bd hq1.symm
  obtain ⟨q2, hq2⟩ : ∃ q2 : Bool, q2 = decide (0 ≤ x ∧ x < p) := ⟨_, rfl⟩
  have p1 : 1 ≤ p := hbd.2.2.2.2.1
  have p8 : p ≤ 8 := hbd.2.2.2.2.2.1
  have K2 : Hid (∀ W : World, Calls Try.prog 75 #[.int .i64 x, .int .i64 0, .int .i64 (p - 1)] W fun e w' => e = .returned (.bool q2) ∧ Below W.heap.size W w') := fun W => (in_any x 0 (p - 1) W).mono fun e w' h => ⟨by rw [hq2, h.1]; congr 2; unfold inB; rw [Bool.eq_iff_iff]; simp only [decide_eq_true_eq]; omega, by rw [← h.2]; exact Below.refl _ _⟩
  have wn : IntKind.i64.wrap (p - 1) = p - 1 := IntWalk.i64_in _ (by omega)
  cases q2
  · have HE : Hid ((atO t a p ac nx x).1 = 0 ∧ (atO t a p ac nx x).2 = 2) := by rw [atO_range hq1.symm (of_decide_eq_false hq2.symm)]; exact ⟨rfl, rfl⟩
    clear hA hB hs hq1 hq2 hbd
    go_enter Try.func25, Try.ntmps25
    go_wp2_with fail
    refine (K1.out _ ⟨(by unfold Sees; go_grown), (by simp [go_sem]), (by simp [go_sem]), (by simp [go_sem]), (by simp [go_sem]), (by simp [go_sem]), trivial⟩).mono ?_
    rintro e w1 ⟨rfl, hb⟩
    have S1 := St.below (w := w) (l := [(w.heap.size, 0, .int .i64 t), (w.heap.size, 1, .int .i64 a), (w.heap.size, 2, .int .i64 p), (w.heap.size, 3, .slice A ac.length C), (w.heap.size, 4, .slice B nx.length D)]) ⟨(by unfold Sees; go_grown), (by simp [go_sem]), (by simp [go_sem]), (by simp [go_sem]), (by simp [go_sem]), (by simp [go_sem]), trivial⟩ hb
    obtain ⟨B1, x0, x1, x2, x3, x4, _⟩ := S1
    clear hb
    go_wp2_with fail
    refine (K2.out _).mono ?_
    rintro e w2 ⟨rfl, hb⟩
    have B2 := B1.below hb
    clear hb B1
    go_wp2_with fail
    go_ret2
    exact ⟨ret_ii HE.out.1.symm HE.out.2.symm, B2⟩
  have hx := of_decide_eq_true hq2.symm
  obtain ⟨X, rfl⟩ : ∃ X : Nat, x = X := ⟨x.toNat, by omega⟩
  have HE : Hid ((atO t a p ac nx X).1 = atmF ac X ac.length ∧ (atO t a p ac nx X).2 = 0) := by rw [atO_yes hq1.symm hx]; exact ⟨rfl, rfl⟩
  have K3 : Hid (∀ W : World, Sees w W → Calls Try.prog 76 #[.slice A ac.length C, .int .i64 (X : Int)] W fun e w' => e = .returned (.int .i64 (atmF ac X ac.length)) ∧ Below W.heap.size W w') := fun W h =>
    specl05Atom_any ac (by omega) X (fun r hr => by have := hbd.2.2.2.2.2.2.2.2.1 r hr; omega) (fun r hr => by have := hbd.2.2.2.2.2.2.2.2.1 r hr; omega) A C W (bb_ok.below hA h)
  clear hA hB hs hq1 hq2 hbd
  go_enter Try.func25, Try.ntmps25
  go_wp2_with fail
  refine (K1.out _ ⟨(by unfold Sees; go_grown), (by simp [go_sem]), (by simp [go_sem]), (by simp [go_sem]), (by simp [go_sem]), (by simp [go_sem]), trivial⟩).mono ?_
  rintro e w1 ⟨rfl, hb⟩
  have S1 := St.below (w := w) (l := [(w.heap.size, 0, .int .i64 t), (w.heap.size, 1, .int .i64 a), (w.heap.size, 2, .int .i64 p), (w.heap.size, 3, .slice A ac.length C), (w.heap.size, 4, .slice B nx.length D)]) ⟨(by unfold Sees; go_grown), (by simp [go_sem]), (by simp [go_sem]), (by simp [go_sem]), (by simp [go_sem]), (by simp [go_sem]), trivial⟩ hb
  obtain ⟨B1, x0, x1, x2, x3, x4, _⟩ := S1
  clear hb
  go_wp2_with fail
  refine (K2.out _).mono ?_
  rintro e w2 ⟨rfl, hb⟩
  have B2 := B1.below hb
  have y3 := kc hb x3
  clear hb B1 x0 x1 x2 x3 x4
  go_wp2_with fail
  refine (K3.out _ B2).mono ?_
  rintro e w3 ⟨rfl, hb⟩
  have B3 := B2.below hb
  clear hb B2 y3
  go_wp2_with fail
  go_ret2
  exact ⟨ret_ii HE.out.1.symm HE.out.2.symm, B3⟩
end Go.Proofs.Ytlmbcggfoaaibaa
