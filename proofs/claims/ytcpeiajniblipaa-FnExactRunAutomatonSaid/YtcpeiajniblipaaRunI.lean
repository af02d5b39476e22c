/- Contracts of impl.nextOf, impl.acceptsAt, impl.RunAutomaton. -/
import Derived.Test.YtcpeiajniblipaaRunD
import Derived.Deep.RegionHeld3
import Derived.Deep.DrawnRows
namespace Go.Proofs.Ytcpeiajniblipaa
open Go.RowKit
attribute [local go_sem ↓] Go.wp_at_zero Go.wp_at_succ

set_option maxHeartbeats 1000000 in
set_option maxRecDepth 100000 in
theorem nextOf_any {t a : Int} {ac : List (List Bool)} {nx : List (List (List Int))} (hv : validA t a ac nx = true) (A B : Option Addr) (C D : Nat) (w : World) (hB : III 0 w nx B) (st : Int) (h1 : -1 ≤ st) (h2 : st < ac.length) (x c : Nat) (hx : (x : Int) < atomsN t) (hc : (c : Int) < a) :
    Calls Try.prog 90 #[.agg #[.int .i64 t, .int .i64 a, .slice A ac.length C, .slice B nx.length D], .int .i64 st, .int .i64 x, .int .i64 c] w fun e w' => e = .returned (.int .i64 (nextA nx st x c)) ∧ Below w.heap.size w w' := by
  by_cases hs : st < 0
  · have ts : decide (st < 0) = true := decide_eq_true hs
    have HE : Hid (nextA nx st x c = -1) := by show _ = _; unfold nextA; rw [if_pos hs]
    clear hs hB hv
    go_enter Try.func90, Try.ntmps90
    go_wp2_with fail
    go_ret
    exact ⟨ret_int HE.out.symm, by go_grown⟩
  · have ts : decide (st < 0) = false := decide_eq_false hs
    obtain ⟨s, rfl⟩ := Int.eq_ofNat_of_zero_le (show 0 ≤ st by omega)
    have hs' : s < ac.length := by omega
    obtain ⟨_, _, _, hnl, _⟩ := valid_at hv
    obtain ⟨yB, zB, D1, yR, zR, D2, yv, zv, lr, lc, v, rfl, c1, c2, c3, hxl, hcl, hnext, v1, v2⟩ := next_look hv hB hs' hx hc
    have d1 := ka (.cells #[.int .i64 t, .int .i64 a, .slice A ac.length C, .slice (some ⟨yB, zB, none⟩) nx.length D] 63) c1
    have d2 := ka (.cells #[.int .i64 t, .int .i64 a, .slice A ac.length C, .slice (some ⟨yB, zB, none⟩) nx.length D] 63) c2
    have d3 := ka (.cells #[.int .i64 t, .int .i64 a, .slice A ac.length C, .slice (some ⟨yB, zB, none⟩) nx.length D] 63) c3
    have HE := Lib.hid hnext
    have s0 : (0 : Int) ≤ (s : Int) := Int.natCast_nonneg _
    have s2 : (s : Int) < (nx.length : Int) := by omega
    have e0 : (0 : Int) ≤ (x : Int) := Int.natCast_nonneg _
    have e1 : (x : Int) < (lr : Int) := by omega
    have f0 : (0 : Int) ≤ (c : Int) := Int.natCast_nonneg _
    have f1 : (c : Int) < (lc : Int) := by omega
    clear hnext hB hv hx hc hnl v1 v2 hs
    go_enter Try.func90, Try.ntmps90
    go_wp2_with fail
    go_ret
    exact ⟨ret_int HE.out.symm, by go_grown⟩

set_option maxHeartbeats 1000000 in
set_option maxRecDepth 100000 in
theorem acceptsAt_any {t a : Int} {ac : List (List Bool)} {nx : List (List (List Int))} (hv : validA t a ac nx = true) (A B : Option Addr) (C D : Nat) (w : World) (hA : BB 0 w ac A) (st : Int) (h1 : -1 ≤ st) (h2 : st < ac.length) (x : Nat) (hx : (x : Int) < atomsN t) :
    Calls Try.prog 91 #[.agg #[.int .i64 t, .int .i64 a, .slice A ac.length C, .slice B nx.length D], .int .i64 st, .int .i64 x] w fun e w' => e = .returned (.bool (accA ac st x)) ∧ Below w.heap.size w w' := by
  by_cases hs : st < 0
  · have ts : decide (0 ≤ st) = false := decide_eq_false (by omega)
    have HE : Hid (accA ac st x = false) := by show _ = _; unfold accA; rw [if_pos hs]
    clear hs hA hv
    go_enter Try.func91, Try.ntmps91
    go_wp2_with fail
    go_ret
    exact ⟨ret_bool HE.out.symm, by go_grown⟩
  · have ts : decide (0 ≤ st) = true := decide_eq_true (by omega)
    obtain ⟨s, rfl⟩ := Int.eq_ofNat_of_zero_le (show 0 ≤ st by omega)
    have hs' : s < ac.length := by omega
    obtain ⟨yA, zA, D1, yR, zR, lr, q, rfl, c1, c2, hxl, hacc⟩ := acc_look hv hA hs' hx
    have d1 := ka (.cells #[.int .i64 t, .int .i64 a, .slice (some ⟨yA, zA, none⟩) ac.length C, .slice B nx.length D] 63) c1
    have d2 := ka (.cells #[.int .i64 t, .int .i64 a, .slice (some ⟨yA, zA, none⟩) ac.length C, .slice B nx.length D] 63) c2
    have HE := Lib.hid hacc
    have s0 : (0 : Int) ≤ (s : Int) := Int.natCast_nonneg _
    have s2 : (s : Int) < (ac.length : Int) := by omega
    have e0 : (0 : Int) ≤ (x : Int) := Int.natCast_nonneg _
    have e1 : (x : Int) < (lr : Int) := by omega
    clear hacc hA hv hx hs
    go_enter Try.func91, Try.ntmps91
    go_wp2_with fail
    go_ret
    exact ⟨ret_bool HE.out.symm, by go_grown⟩

theorem nextA_bd {t a : Int} {ac : List (List Bool)} {nx : List (List (List Int))} {w : World} {B : Option Addr} (hv : validA t a ac nx = true) (hB : III 0 w nx B) {st : Int} (h1 : -1 ≤ st) (h2 : st < ac.length) {x c : Nat} (hx : (x : Int) < atomsN t) (hc : (c : Int) < a) : -1 ≤ nextA nx st x c ∧ nextA nx st x c < ac.length := by
  by_cases hs : st < 0
  · unfold nextA
    rw [if_pos hs]
    omega
  · obtain ⟨s, rfl⟩ := Int.eq_ofNat_of_zero_le (show 0 ≤ st by omega)
    obtain ⟨_, _, _, _, _, _, _, _, _, _, v, _, _, _, _, _, _, hn, v1, v2⟩ := next_look hv hB (show s < ac.length by omega) hx hc
    have : nextA nx (s : Int) x c = v := hn
    show -1 ≤ nextA nx (s : Int) x c ∧ nextA nx (s : Int) x c < ac.length
    rw [this]
    exact ⟨v1, v2⟩

set_option maxHeartbeats 4000000 in
set_option maxRecDepth 100000 in
theorem implRunAutomaton_any (t a : Int) (ac : List (List Bool)) (nx : List (List (List Int))) (p r : List Int) (hs : SmallA ac nx) (hsm : p.length + r.length ≤ 1048576) (A B P R : Option Addr) (C D E F : Nat) (w : World) (hA : BB 0 w ac A) (hB : III 0 w nx B) (hp : Ints w p P) (hr : Ints w r R) :
    Calls Try.prog 44 #[.agg #[.int .i64 t, .int .i64 a, .slice A ac.length C, .slice B nx.length D], .agg #[.slice P p.length E, .slice R r.length F]] w fun e w' => e = .returned (.tuple #[.bool (raB t a ac nx p r), .int .i64 (raC t a ac nx p r)]) ∧ Below w.heap.size w w' := by
  obtain ⟨w0, hw0⟩ : ∃ w0, w0 = (w.alloc (.cells #[.int .i64 t, .int .i64 a, .slice A ac.length C, .slice B nx.length D] 63)).alloc (.cells #[.slice P p.length E, .slice R r.length F] 47) := ⟨_, rfl⟩
  have B0 : Sees w w0 := by rw [hw0]; exact ((Sees.refl w).alloc _).alloc _
  have HS : Hid (St w0 [(w.heap.size, 0, .int .i64 t), (w.heap.size, 1, .int .i64 a), (w.heap.size, 2, .slice A ac.length C), (w.heap.size, 3, .slice B nx.length D), (w.heap.size + 1, 0, .slice P p.length E), (w.heap.size + 1, 1, .slice R r.length F)] w0) :=
    ⟨Below.refl _ _, by rw [hw0]; exact ⟨(by simp [go_sem]), (by simp [go_sem]), (by simp [go_sem]), (by simp [go_sem]), (by simp [go_sem]), (by simp [go_sem]), trivial⟩⟩
  have hA := hA.sees B0; have hB := hB.sees B0; have hp := hp.sees B0; have hr := hr.sees B0
  have FIN : Hid (∀ W : World, Sees w0 W → Below w.heap.size w W) := fun W h => Sees.below B0 h
  obtain ⟨q1, hq1⟩ : ∃ q1 : Bool, q1 = validA t a ac nx := ⟨_, rfl⟩
  obtain ⟨q2, hq2⟩ : ∃ q2 : Bool, q2 = validW t a p r := ⟨_, rfl⟩
  have K1 : Hid (∀ W : World, Sees w0 W → Calls Try.prog 39 #[.agg #[.int .i64 t, .int .i64 a, .slice A ac.length C, .slice B nx.length D]] W fun e w' => e = .returned (.bool q1) ∧ Below W.heap.size W w') := fun W h => by
    rw [hq1]
    exact implValidAutomaton_any t a ac nx hs A B C D W (hA.sees h) (hB.sees h)
  have K2 : Hid (∀ W : World, Sees w0 W → Calls Try.prog 28 #[.agg #[.int .i64 t, .int .i64 a], .agg #[.slice P p.length E, .slice R r.length F]] W fun e w' => e = .returned (.bool q2) ∧ Below W.heap.size W w') := fun W h => by
    rw [hq2]
    exact implValidWord_any t a p r hsm P R E F W (hp.sees h) (hr.sees h)
  cases q1
  · obtain ⟨u1, u2⟩ := raC_no (p := p) (r := r) (by rw [← hq1]; rfl)
    rw [u1, u2]
    clear u1 u2 hq1 hq2 hA hB hp hr B0
    go_enter Try.func44, Try.ntmps44
    go_wp2_with fail
    rw [← hw0]
    refine (K1.out _ HS.out.1).mono ?_
    rintro e w1 ⟨rfl, hb⟩
    have S1 := Lib.hid (HS.out.below hb)
    clear hb hw0
    go_wp2_with fail
    refine bodyPost_ret (v := .tuple #[.bool false, .int .i64 1]) (by simp [results, Try.results44, go_sem]) rfl ⟨rfl, FIN.out _ S1.out.1⟩
  cases q2
  · obtain ⟨u1, u2⟩ := raC_no (ac := ac) (nx := nx) (p := p) (r := r) (by rw [← hq1, ← hq2]; rfl)
    rw [u1, u2]
    clear u1 u2 hq1 hq2 hA hB hp hr B0
    go_enter Try.func44, Try.ntmps44
    go_wp2_with fail
    rw [← hw0]
    refine (K1.out _ HS.out.1).mono ?_
    rintro e w1 ⟨rfl, hb⟩
    have S1 := Lib.hid (HS.out.below hb)
    clear hb hw0
    obtain ⟨_, z0, z1, z2, z3, z4, z5, _⟩ := S1.out
    go_wp2_with fail
    clear z0 z1 z2 z3 z4 z5
    refine (K2.out _ S1.out.1).mono ?_
    rintro e w2 ⟨rfl, hb⟩
    have S2 := Lib.hid (S1.out.below hb)
    clear hb S1
    go_wp2_with fail
    refine bodyPost_ret (v := .tuple #[.bool false, .int .i64 1]) (by simp [results, Try.results44, go_sem]) rfl ⟨rfl, FIN.out _ S2.out.1⟩
  obtain ⟨u1, u2⟩ := raC_yes hq1.symm hq2.symm
  rw [u1, u2]
  obtain ⟨_, hac1, hac60, hnl, _⟩ := valid_at hq1.symm
  obtain ⟨hpl, hr10, hpx, hrc⟩ := validW_at hq2.symm
  obtain ⟨yp, zp, rfl, hpat⟩ := hp (by rintro rfl; simp at hpl)
  have KN : Hid (∀ (W : World) (st : Int) (x c : Nat), Sees w0 W → -1 ≤ st → st < ac.length → (x : Int) < atomsN t → (c : Int) < a → Calls Try.prog 90 #[.agg #[.int .i64 t, .int .i64 a, .slice A ac.length C, .slice B nx.length D], .int .i64 st, .int .i64 x, .int .i64 c] W fun e w' => e = .returned (.int .i64 (nextA nx st x c)) ∧ Below W.heap.size W w') := fun W st x c h h1 h2 h3 h4 =>
    nextOf_any hq1.symm A B C D W (hB.sees h) st h1 h2 x c h3 h4
  have KC : Hid (∀ (W : World) (st : Int) (x : Nat), Sees w0 W → -1 ≤ st → st < ac.length → (x : Int) < atomsN t → Calls Try.prog 91 #[.agg #[.int .i64 t, .int .i64 a, .slice A ac.length C, .slice B nx.length D], .int .i64 st, .int .i64 x] W fun e w' => e = .returned (.bool (accA ac st x)) ∧ Below W.heap.size W w') := fun W st x h h1 h2 h3 =>
    acceptsAt_any hq1.symm A B C D W (hA.sees h) st h1 h2 x h3
  have KB : Hid (∀ (st : Int) (x c : Nat), -1 ≤ st → st < ac.length → (x : Int) < atomsN t → (c : Int) < a → -1 ≤ nextA nx st x c ∧ nextA nx st x c < ac.length) := fun st x c h1 h2 h3 h4 => nextA_bd hq1.symm hB h1 h2 h3 h4
  have HPAT := Lib.hid hpat; have HPX := Lib.hid hpx; have HRC := Lib.hid hrc; have HPL := Lib.hid hpl
  have HR := Lib.hid hr
  clear hpat hpx hrc hpl hnl hA hB hp hr u1 u2 hq1 hq2 B0
  go_enter Try.func44, Try.ntmps44
  go_wp2_with fail
  rw [← hw0]
  refine (K1.out _ HS.out.1).mono ?_
  rintro e w1 ⟨rfl, hb⟩
  have S1 := Lib.hid (HS.out.below hb)
  clear hb hw0
  obtain ⟨_, z0, z1, z2, z3, z4, z5, _⟩ := S1.out
  go_wp2_with fail
  clear z0 z1 z2 z3 z4 z5
  refine (K2.out _ S1.out.1).mono ?_
  rintro e w2 ⟨rfl, hb⟩
  have S2 := Lib.hid (S1.out.below hb)
  clear hb S1
  obtain ⟨_, z0, z1, z2, z3, z4, z5, _⟩ := S2.out
  go_wp2_with fail
  clear z0 z1 z2 z3 z4 z5
  go_loopw [6, 22] (fun s i wr => ∃ (j : Nat) (st : Int), j ≤ r.length ∧ i = .int .i64 j ∧ s = .int .i64 st ∧ -1 ≤ st ∧ st < ac.length ∧ Hid (stateA nx p r j = st) ∧ Hid (St w0 [(w.heap.size, 0, .int .i64 t), (w.heap.size, 1, .int .i64 a), (w.heap.size, 2, .slice A ac.length C), (w.heap.size, 3, .slice B nx.length D), (w.heap.size + 1, 0, .slice (some ⟨yp, zp, none⟩) p.length E), (w.heap.size + 1, 1, .slice R r.length F)] wr)) (fun _ i _ => r.length - (intOf i).toNat)
  case atStart => exact ⟨0, 0, Nat.zero_le _, rfl, rfl, by omega, by omega, rfl, S2⟩
  case round =>
    obtain ⟨j, st, hj, rfl, rfl, st1, st2, hst, hS⟩ := hrel
    clear S2
    obtain ⟨sS, z0, z1, z2, z3, z4, z5, _⟩ := hS.out
    by_cases hjl : j < r.length
    · obtain ⟨x, hx, hxa⟩ := HPX.out j (by have := HPL.out; omega)
      obtain ⟨c, hc, hca⟩ := HRC.out j hjl
      obtain ⟨yr, zr, rfl, hrat⟩ := HR.out (by rintro rfl; simp at hjl)
      have c4 := HPAT.out j (by have := HPL.out; omega)
      have c5 := hrat j hjl
      rw [hx] at c4
      rw [hc] at c5
      have d4 := kc sS c4; have d5 := kc sS c5
      have HRAT := Lib.hid hrat
      obtain ⟨nw, hnw⟩ : ∃ nw : Int, Hid (nw = nextA nx st x c) := ⟨_, rfl⟩
      have hbd := KB.out st x c st1 st2 hxa hca
      rw [← hnw.out] at hbd
      have hstep : Hid (stateA nx p r (j + 1) = nw) := by
        show nextA nx (stateA nx p r j) (nth p j) (nth r j) = nw
        rw [hst.out, hx, hc, hnw.out]
      have KN2 : Hid (∀ W : World, Sees w0 W → Calls Try.prog 90 #[.agg #[.int .i64 t, .int .i64 a, .slice A ac.length C, .slice B nx.length D], .int .i64 st, .int .i64 x, .int .i64 c] W fun e w' => e = .returned (.int .i64 nw) ∧ Below W.heap.size W w') := fun W h => by
        rw [hnw.out]
        exact KN.out W st x c h st1 st2 hxa hca
      have j0 : (0 : Int) ≤ (j : Int) := Int.natCast_nonneg _
      have j1 : (j : Int) < (r.length : Int) := by omega
      have j2 : (j : Int) < (p.length : Int) := by have := HPL.out; omega
      clear hx hc hrat c4 c5 hxa hca hst
      go_wp2_with fail
      go_region_held3 (fun w' => Sees w0 w' ∧ w'.cell? ⟨w.heap.size, 0, none⟩ = some (.int .i64 t) ∧ w'.cell? ⟨w.heap.size, 1, none⟩ = some (.int .i64 a) ∧ w'.cell? ⟨w.heap.size, 2, none⟩ = some (.slice A ac.length C) ∧ w'.cell? ⟨w.heap.size, 3, none⟩ = some (.slice B nx.length D) ∧ w'.cell? ⟨w.heap.size + 1, 0, none⟩ = some (.slice (some ⟨yp, zp, none⟩) p.length E) ∧ w'.cell? ⟨w.heap.size + 1, 1, none⟩ = some (.slice (some ⟨yr, zr, none⟩) r.length F) ∧ w'.cell? ⟨yp, zp + j, none⟩ = some (.int .i64 x) ∧ True)
        (first | exact ⟨sS.drew, z0, z1, z2, z3, z4, z5, d4, trivial⟩ | exact T1 | (go_keep; done))
        ((go_at_call 90; refine (KN2.out _ ?_).mono ?_; exact sS.drew; rintro e w3 ⟨rfl, hb⟩; have T1 := St.below (w := w0) (l := [(w.heap.size, 0, .int .i64 t), (w.heap.size, 1, .int .i64 a), (w.heap.size, 2, .slice A ac.length C), (w.heap.size, 3, .slice B nx.length D), (w.heap.size + 1, 0, .slice (some ⟨yp, zp, none⟩) p.length E), (w.heap.size + 1, 1, .slice (some ⟨yr, zr, none⟩) r.length F), (yp, zp + j, .int .i64 x)]) (by assumption) hb))
      have T2 : Hid (St w0 [(w.heap.size, 0, .int .i64 t), (w.heap.size, 1, .int .i64 a), (w.heap.size, 2, .slice A ac.length C), (w.heap.size, 3, .slice B nx.length D), (w.heap.size + 1, 0, .slice (some ⟨yp, zp, none⟩) p.length E), (w.heap.size + 1, 1, .slice (some ⟨yr, zr, none⟩) r.length F)] w3) := by
        obtain ⟨q0, q1, q2, q3, q4, q5, q6, _⟩ := T1
        exact ⟨q0, q1, q2, q3, q4, q5, q6, trivial⟩
      clear T1 hb z0 z1 z2 z3 z4 z5 d4 d5 sS
      go_wp2_with fail
      go_roundw
      case rel => exact ⟨j + 1, nw, by omega, by go_num, rfl, hbd.1, hbd.2, hstep, T2⟩
      case measure => simp [intOf]; omega
    · obtain rfl : j = r.length := by omega
      obtain ⟨x, hx, hxa⟩ := HPX.out r.length (by have := HPL.out; omega)
      have c4 := HPAT.out r.length (by have := HPL.out; omega)
      rw [hx] at c4
      have d4 := kc sS c4
      obtain ⟨q, hq⟩ : ∃ q : Bool, Hid (q = accA ac st x) := ⟨_, rfl⟩
      have HE : Hid (runA ac nx p r = q) := by
        show accA ac (stateA nx p r r.length) (nth p r.length) = q
        rw [hst.out, hx, hq.out]
      have KC2 : Hid (∀ W : World, Sees w0 W → Calls Try.prog 91 #[.agg #[.int .i64 t, .int .i64 a, .slice A ac.length C, .slice B nx.length D], .int .i64 st, .int .i64 x] W fun e w' => e = .returned (.bool q) ∧ Below W.heap.size W w') := fun W h => by
        rw [hq.out]
        exact KC.out W st x h st1 st2 hxa
      have j0 : (0 : Int) ≤ (r.length : Int) := Int.natCast_nonneg _
      have j2 : (r.length : Int) < (p.length : Int) := by have := HPL.out; omega
      clear hx c4 hxa hst
      go_wp2_with fail
      go_region_held3 (fun w' => Sees w0 w' ∧ w'.cell? ⟨w.heap.size, 0, none⟩ = some (.int .i64 t) ∧ w'.cell? ⟨w.heap.size, 1, none⟩ = some (.int .i64 a) ∧ w'.cell? ⟨w.heap.size, 2, none⟩ = some (.slice A ac.length C) ∧ w'.cell? ⟨w.heap.size, 3, none⟩ = some (.slice B nx.length D) ∧ w'.cell? ⟨w.heap.size + 1, 0, none⟩ = some (.slice (some ⟨yp, zp, none⟩) p.length E) ∧ w'.cell? ⟨w.heap.size + 1, 1, none⟩ = some (.slice R r.length F) ∧ w'.cell? ⟨yp, zp + r.length, none⟩ = some (.int .i64 x) ∧ True)
        (first | exact ⟨sS.drew, z0, z1, z2, z3, z4, z5, d4, trivial⟩ | exact T1 | (go_keep; done))
        ((go_at_call 91; refine (KC2.out _ ?_).mono ?_; exact sS.drew; rintro e w3 ⟨rfl, hb⟩; have T1 := St.below (w := w0) (l := [(w.heap.size, 0, .int .i64 t), (w.heap.size, 1, .int .i64 a), (w.heap.size, 2, .slice A ac.length C), (w.heap.size, 3, .slice B nx.length D), (w.heap.size + 1, 0, .slice (some ⟨yp, zp, none⟩) p.length E), (w.heap.size + 1, 1, .slice R r.length F), (yp, zp + r.length, .int .i64 x)]) (by assumption) hb))
      have T2 : Hid (Sees w0 w3) := T1.1
      clear T1 hb z0 z1 z2 z3 z4 z5 d4 sS
      go_wp2_with fail
      refine bodyPost_ret (v := .tuple #[.bool q, .int .i64 0]) (by simp [results, Try.results44, go_sem]) rfl ⟨by rw [HE.out], FIN.out _ T2.out⟩
end Go.Proofs.Ytcpeiajniblipaa
