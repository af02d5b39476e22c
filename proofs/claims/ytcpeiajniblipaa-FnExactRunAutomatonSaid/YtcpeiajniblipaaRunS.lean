/- Contracts of spec.l02Runs, spec.RunAutomaton. -/
import Derived.Test.YtcpeiajniblipaaRunD
import Derived.Deep.RegionHeld3
import Derived.Deep.DrawnRows
namespace Go.Proofs.Ytcpeiajniblipaa
open Go.RowKit
attribute [local go_sem ↓] Go.wp_at_zero Go.wp_at_succ

set_option maxHeartbeats 2000000 in
set_option maxRecDepth 100000 in
theorem l02Runs_any {t a : Int} {ac : List (List Bool)} {nx : List (List (List Int))} {p r : List Int} (hv : validA t a ac nx = true) (hw : validW t a p r = true) (A B P R : Option Addr) (C D E F : Nat) (b1 b2 : Nat) (w : World) (hA : BB 0 w ac A) (hB : III 0 w nx B) (hp : Ints w p P) (hr : Ints w r R)
    (g2 : w.cell? ⟨b1, 2, none⟩ = some (.slice A ac.length C)) (g3 : w.cell? ⟨b1, 3, none⟩ = some (.slice B nx.length D)) (k0 : w.cell? ⟨b2, 0, none⟩ = some (.slice P p.length E)) (k1 : w.cell? ⟨b2, 1, none⟩ = some (.slice R r.length F)) :
    Calls Try.prog 89 #[.pointer (some ⟨b1, 0, none⟩), .pointer (some ⟨b2, 0, none⟩)] w fun e w' => e = .returned (.bool (runA ac nx p r)) ∧ Below w.heap.size w w' := by
  obtain ⟨_, hac1, hac60, hnl, _⟩ := valid_at hv
  obtain ⟨hpl, hr10, hpx, hrc⟩ := validW_at hw
  obtain ⟨yp, zp, rfl, hpat⟩ := hp (by rintro rfl; simp at hpl)
  have HPAT := Lib.hid hpat; have HPX := Lib.hid hpx; have HRC := Lib.hid hrc; have HV := Lib.hid hv; have HPL := Lib.hid hpl; have HNL := Lib.hid hnl
  have HA := Lib.hid hA; have HB := Lib.hid hB; have HR := Lib.hid hr
  clear hpat hpx hrc hv hw hpl hnl hA hB hp hr
  go_enter Try.func89, Try.ntmps89
  go_wp2_with fail
  go_loopw [5, 6] (fun st i wr => ∃ j s : Nat, j ≤ r.length ∧ i = .int .i64 j ∧ st = .int .i64 s ∧ s < ac.length ∧ Hid (stateA nx p r j = s) ∧ Hid (Below w.heap.size w wr)) (fun _ i _ => r.length - (intOf i).toNat)
  case atStart => exact ⟨0, 0, Nat.zero_le _, rfl, rfl, by omega, rfl, Below.refl _ _⟩
  case round =>
    obtain ⟨j, s, hj, rfl, rfl, hs, hst, hb0⟩ := hrel
    have hb := hb0.out
    have x2 := kc hb g2; have x3 := kc hb g3; have y0 := kc hb k0; have y1 := kc hb k1
    have s0 : (0 : Int) ≤ (s : Int) := Int.natCast_nonneg _
    have s1 : (s : Int) < (ac.length : Int) := by omega
    have s2 : (s : Int) < (nx.length : Int) := by have := HNL.out; omega
    by_cases hjl : j < r.length
    · obtain ⟨x, hx, hxa⟩ := HPX.out j (by have := HPL.out; omega)
      obtain ⟨c, hc, hca⟩ := HRC.out j hjl
      obtain ⟨yB, zB, D1, yR, zR, D2, yv, zv, lr, lc, v, rfl, c1, c2, c3, hxl, hcl, hnext, v1, v2⟩ := next_look HV.out HB.out hs hxa hca
      obtain ⟨yr, zr, rfl, hrat⟩ := HR.out (by rintro rfl; simp at hjl)
      have c4 := HPAT.out j (by have := HPL.out; omega)
      have c5 := hrat j hjl
      rw [hx] at c4
      rw [hc] at c5
      have d1 := kc hb c1; have d2 := kc hb c2; have d3 := kc hb c3; have d4 := kc hb c4; have d5 := kc hb c5
      have HRAT := Lib.hid hrat
      have hstep : Hid (stateA nx p r (j + 1) = v) := by
        show nextA nx (stateA nx p r j) (nth p j) (nth r j) = v
        rw [hst.out, hx, hc]
        exact hnext
      have j0 : (0 : Int) ≤ (j : Int) := Int.natCast_nonneg _
      have j1 : (j : Int) < (r.length : Int) := by omega
      have j2 : (j : Int) < (p.length : Int) := by have := HPL.out; omega
      have e0 : (0 : Int) ≤ (x : Int) := Int.natCast_nonneg _
      have e1 : (x : Int) < (lr : Int) := by omega
      have f0 : (0 : Int) ≤ (c : Int) := Int.natCast_nonneg _
      have f1 : (c : Int) < (lc : Int) := by omega
      clear hx hc hnext hrat c1 c2 c3 c4 c5 hxa hca hst
      by_cases hv0 : v < 0
      · have tv : decide (v < 0) = true := decide_eq_true hv0
        have HE : Hid (runA ac nx p r = false) := runA_neg (by rw [hstep.out]; exact hv0) (by omega)
        clear hv0 v1 v2
        go_wp2_with fail
        go_region_held3 (fun w' => w'.cell? ⟨b1, 3, none⟩ = some (.slice (some ⟨yB, zB, none⟩) nx.length D) ∧ w'.cell? ⟨yB, zB + s, none⟩ = some (.slice (some ⟨yR, zR, none⟩) lr D1) ∧ w'.cell? ⟨b2, 0, none⟩ = some (.slice (some ⟨yp, zp, none⟩) p.length E) ∧ w'.cell? ⟨yp, zp + j, none⟩ = some (.int .i64 x) ∧ w'.cell? ⟨yR, zR + x, none⟩ = some (.slice (some ⟨yv, zv, none⟩) lc D2) ∧ w'.cell? ⟨b2, 1, none⟩ = some (.slice (some ⟨yr, zr, none⟩) r.length F) ∧ w'.cell? ⟨yr, zr + j, none⟩ = some (.int .i64 c) ∧ w'.cell? ⟨yv, zv + c, none⟩ = some (.int .i64 v)) (first | (go_keep; done) | exact ⟨x3, d1, y0, d4, d2, y1, d5, d3⟩) (fail)
        go_wp2_with fail
        go_ret
        exact ⟨ret_bool HE.out.symm, hb.drew⟩
      · have tv : decide (v < 0) = false := decide_eq_false hv0
        obtain ⟨s', rfl⟩ := Int.eq_ofNat_of_zero_le (show 0 ≤ v by omega)
        have hs' : s' < ac.length := by omega
        clear hv0 v1 v2
        go_wp2_with fail
        go_region_held3 (fun w' => w'.cell? ⟨b1, 3, none⟩ = some (.slice (some ⟨yB, zB, none⟩) nx.length D) ∧ w'.cell? ⟨yB, zB + s, none⟩ = some (.slice (some ⟨yR, zR, none⟩) lr D1) ∧ w'.cell? ⟨b2, 0, none⟩ = some (.slice (some ⟨yp, zp, none⟩) p.length E) ∧ w'.cell? ⟨yp, zp + j, none⟩ = some (.int .i64 x) ∧ w'.cell? ⟨yR, zR + x, none⟩ = some (.slice (some ⟨yv, zv, none⟩) lc D2) ∧ w'.cell? ⟨b2, 1, none⟩ = some (.slice (some ⟨yr, zr, none⟩) r.length F) ∧ w'.cell? ⟨yr, zr + j, none⟩ = some (.int .i64 c) ∧ w'.cell? ⟨yv, zv + c, none⟩ = some (.int .i64 s')) (first | (go_keep; done) | exact ⟨x3, d1, y0, d4, d2, y1, d5, d3⟩) (fail)
        have HB2 : Hid (Below w.heap.size w wr.drew) := hb.drew
        clear hb x2 x3 y0 y1 d1 d2 d3 d4 d5
        go_wp2_with fail
        go_roundw
        case rel => exact ⟨j + 1, s', by omega, by go_num, rfl, hs', hstep, HB2⟩
        case measure => simp [intOf]; omega
    · obtain rfl : j = r.length := by omega
      obtain ⟨x, hx, hxa⟩ := HPX.out r.length (by have := HPL.out; omega)
      obtain ⟨yA, zA, D1, yR, zR, lr, q, rfl, c1, c2, hxl, hacc⟩ := acc_look HV.out HA.out hs hxa
      have c4 := HPAT.out r.length (by have := HPL.out; omega)
      rw [hx] at c4
      have d1 := kc hb c1; have d2 := kc hb c2; have d4 := kc hb c4
      have HE : Hid (runA ac nx p r = q) := by
        show accA ac (stateA nx p r r.length) (nth p r.length) = q
        rw [hst.out, hx]
        exact hacc
      have j0 : (0 : Int) ≤ (r.length : Int) := Int.natCast_nonneg _
      have j2 : (r.length : Int) < (p.length : Int) := by have := HPL.out; omega
      have e0 : (0 : Int) ≤ (x : Int) := Int.natCast_nonneg _
      have e1 : (x : Int) < (lr : Int) := by omega
      clear hx hacc c1 c2 c4 hxa hst
      go_wp2_with fail
      go_region_held3 (fun w' => w'.cell? ⟨b1, 2, none⟩ = some (.slice (some ⟨yA, zA, none⟩) ac.length C) ∧ w'.cell? ⟨yA, zA + s, none⟩ = some (.slice (some ⟨yR, zR, none⟩) lr D1) ∧ w'.cell? ⟨b2, 0, none⟩ = some (.slice (some ⟨yp, zp, none⟩) p.length E) ∧ w'.cell? ⟨b2, 1, none⟩ = some (.slice R r.length F) ∧ w'.cell? ⟨yp, zp + r.length, none⟩ = some (.int .i64 x) ∧ w'.cell? ⟨yR, zR + x, none⟩ = some (.bool q)) (first | (go_keep; done) | exact ⟨x2, d1, y0, y1, d4, d2⟩) (fail)
      go_wp2_with fail
      go_ret
      exact ⟨ret_bool HE.out.symm, hb.drew⟩

set_option maxHeartbeats 2000000 in
set_option maxRecDepth 100000 in
theorem specRunAutomaton_any (t a : Int) (ac : List (List Bool)) (nx : List (List (List Int))) (p r : List Int) (hs : SmallA ac nx) (hsm : p.length + r.length ≤ 1048576) (A B P R : Option Addr) (C D E F : Nat) (w : World) (hA : BB 0 w ac A) (hB : III 0 w nx B) (hp : Ints w p P) (hr : Ints w r R) :
    Calls Try.prog 43 #[.agg #[.int .i64 t, .int .i64 a, .slice A ac.length C, .slice B nx.length D], .agg #[.slice P p.length E, .slice R r.length F]] w fun e w' => e = .returned (.tuple #[.bool (raB t a ac nx p r), .int .i64 (raC t a ac nx p r)]) ∧ Below w.heap.size w w' := by
  obtain ⟨w0, hw0⟩ : ∃ w0, w0 = (w.alloc (.cells #[.int .i64 t, .int .i64 a, .slice A ac.length C, .slice B nx.length D] 63)).alloc (.cells #[.slice P p.length E, .slice R r.length F] 47) := ⟨_, rfl⟩
  have B0 : Sees w w0 := by rw [hw0]; exact ((Sees.refl w).alloc _).alloc _
  have HS : Hid (St w0 [(w.heap.size, 0, .int .i64 t), (w.heap.size, 1, .int .i64 a), (w.heap.size, 2, .slice A ac.length C), (w.heap.size, 3, .slice B nx.length D), (w.heap.size + 1, 0, .slice P p.length E), (w.heap.size + 1, 1, .slice R r.length F)] w0) :=
    ⟨Below.refl _ _, by rw [hw0]; exact ⟨(by simp [go_sem]), (by simp [go_sem]), (by simp [go_sem]), (by simp [go_sem]), (by simp [go_sem]), (by simp [go_sem]), trivial⟩⟩
  have hA := hA.sees B0; have hB := hB.sees B0; have hp := hp.sees B0; have hr := hr.sees B0
  have FIN : Hid (∀ W : World, Sees w0 W → Below w.heap.size w W) := fun W h => Sees.below B0 h
  obtain ⟨q1, hq1⟩ : ∃ q1 : Bool, q1 = validA t a ac nx := ⟨_, rfl⟩
  obtain ⟨q2, hq2⟩ : ∃ q2 : Bool, q2 = validW t a p r := ⟨_, rfl⟩
  have K1 : Hid (∀ W : World, St w0 [(w.heap.size, 0, .int .i64 t), (w.heap.size, 1, .int .i64 a), (w.heap.size, 2, .slice A ac.length C), (w.heap.size, 3, .slice B nx.length D), (w.heap.size + 1, 0, .slice P p.length E), (w.heap.size + 1, 1, .slice R r.length F)] W → Calls Try.prog 75 #[.pointer (some ⟨w.heap.size, 0, none⟩)] W fun e w' => e = .returned (.bool q1) ∧ Below W.heap.size W w') := fun W h => by
    rw [hq1]
    exact l02Ok_any t a ac nx hs A B C D _ W (hA.sees h.1) (hB.sees h.1) h.2.1 h.2.2.1 h.2.2.2.1 h.2.2.2.2.1
  have K2 : Hid (∀ W : World, St w0 [(w.heap.size, 0, .int .i64 t), (w.heap.size, 1, .int .i64 a), (w.heap.size, 2, .slice A ac.length C), (w.heap.size, 3, .slice B nx.length D), (w.heap.size + 1, 0, .slice P p.length E), (w.heap.size + 1, 1, .slice R r.length F)] W → Calls Try.prog 63 #[.agg #[.int .i64 t, .int .i64 a], .pointer (some ⟨w.heap.size + 1, 0, none⟩)] W fun e w' => e = .returned (.bool q2) ∧ Below W.heap.size W w') := fun W h => by
    rw [hq2]
    exact l01Word_any p r hsm t a P R E F _ 0 W (hp.sees h.1) (hr.sees h.1) h.2.2.2.2.2.1 h.2.2.2.2.2.2.1
  cases q1
  · obtain ⟨u1, u2⟩ := raC_no (p := p) (r := r) (by rw [← hq1]; rfl)
    rw [u1, u2]
    clear u1 u2 hq1 hq2 hA hB hp hr B0
    go_enter Try.func43, Try.ntmps43
    go_wp2_with fail
    rw [← hw0]
    refine (K1.out _ HS.out).mono ?_
    rintro e w1 ⟨rfl, hb⟩
    have S1 := Lib.hid (HS.out.below hb)
    clear hb hw0
    go_wp2_with fail
    refine bodyPost_ret (v := .tuple #[.bool false, .int .i64 1]) (by simp [results, Try.results43, go_sem]) rfl ⟨rfl, FIN.out _ S1.out.1⟩
  cases q2
  · obtain ⟨u1, u2⟩ := raC_no (ac := ac) (nx := nx) (p := p) (r := r) (by rw [← hq1, ← hq2]; rfl)
    rw [u1, u2]
    clear u1 u2 hq1 hq2 hA hB hp hr B0
    go_enter Try.func43, Try.ntmps43
    go_wp2_with fail
    rw [← hw0]
    refine (K1.out _ HS.out).mono ?_
    rintro e w1 ⟨rfl, hb⟩
    have S1 := Lib.hid (HS.out.below hb)
    clear hb hw0
    obtain ⟨_, z0, z1, _⟩ := S1.out
    go_wp2_with fail
    clear z0 z1
    refine (K2.out _ S1.out).mono ?_
    rintro e w2 ⟨rfl, hb⟩
    have S2 := Lib.hid (S1.out.below hb)
    clear hb S1
    go_wp2_with fail
    refine bodyPost_ret (v := .tuple #[.bool false, .int .i64 1]) (by simp [results, Try.results43, go_sem]) rfl ⟨rfl, FIN.out _ S2.out.1⟩
  obtain ⟨u1, u2⟩ := raC_yes hq1.symm hq2.symm
  obtain ⟨q3, hq3⟩ : ∃ q3 : Bool, q3 = runA ac nx p r := ⟨_, rfl⟩
  rw [u1, u2, ← hq3]
  have K3 : Hid (∀ W : World, St w0 [(w.heap.size, 0, .int .i64 t), (w.heap.size, 1, .int .i64 a), (w.heap.size, 2, .slice A ac.length C), (w.heap.size, 3, .slice B nx.length D), (w.heap.size + 1, 0, .slice P p.length E), (w.heap.size + 1, 1, .slice R r.length F)] W → Calls Try.prog 89 #[.pointer (some ⟨w.heap.size, 0, none⟩), .pointer (some ⟨w.heap.size + 1, 0, none⟩)] W fun e w' => e = .returned (.bool q3) ∧ Below W.heap.size W w') := fun W h => by
    rw [hq3]
    exact l02Runs_any hq1.symm hq2.symm A B P R C D E F _ _ W (hA.sees h.1) (hB.sees h.1) (hp.sees h.1) (hr.sees h.1) h.2.2.2.1 h.2.2.2.2.1 h.2.2.2.2.2.1 h.2.2.2.2.2.2.1
  clear u1 u2 hq1 hq2 hq3 hA hB hp hr B0
  go_enter Try.func43, Try.ntmps43
  go_wp2_with fail
  rw [← hw0]
  refine (K1.out _ HS.out).mono ?_
  rintro e w1 ⟨rfl, hb⟩
  have S1 := Lib.hid (HS.out.below hb)
  clear hb hw0
  obtain ⟨_, z0, z1, _⟩ := S1.out
  go_wp2_with fail
  clear z0 z1
  refine (K2.out _ S1.out).mono ?_
  rintro e w2 ⟨rfl, hb⟩
  have S2 := Lib.hid (S1.out.below hb)
  clear hb S1
  go_wp2_with fail
  refine (K3.out _ S2.out).mono ?_
  rintro e w3 ⟨rfl, hb⟩
  have S3 := Lib.hid (S2.out.below hb)
  clear hb S2
  go_wp2_with fail
  refine bodyPost_ret (v := .tuple #[.bool q3, .int .i64 0]) (by simp [results, Try.results43, go_sem]) rfl ⟨rfl, FIN.out _ S3.out.1⟩
end Go.Proofs.Ytcpeiajniblipaa
