/- Contract of spec.l01Fuse. -/
import Derived.Test.YtcpeiajniblipaaRgA
import Derived.Deep.RegionHeld3
import Derived.Deep.DrawnRows
import Derived.Deep.DeepCutAuto
namespace Go.Proofs.Ytcpeiajniblipaa
open Go.RowKit
attribute [local go_sem ↓] Go.wp_at_zero Go.wp_at_succ

set_option maxHeartbeats 2000000 in
set_option maxRecDepth 100000 in
theorem l01Fuse_no (n m : Nat) (c d : Int) (hnc : d ≠ c) (hn : n ≤ 1048576) (b1 b2 y1 z1 y2 z2 : Nat) (C1 C2 : Nat) (w : World)
    (g10 : w.cell? ⟨b1, 0, none⟩ = some (.slice (some ⟨y1, z1, none⟩) (n + 1) C1))
    (g20 : w.cell? ⟨b2, 0, none⟩ = some (.slice (some ⟨y2, z2, none⟩) (m + 1) C2))
    (e1 : w.cell? ⟨y1, z1 + n, none⟩ = some (.int .i64 d)) (e2 : w.cell? ⟨y2, z2, none⟩ = some (.int .i64 c)) :
    Calls Try.prog 71 #[.pointer (some ⟨b1, 0, none⟩), .pointer (some ⟨b2, 0, none⟩)] w fun e w' => e = .returned (.tuple #[.agg #[.slice none 0 0, .slice none 0 0], .bool false]) ∧ Below w.heap.size w w' := by
  have x10 := ka (.cells #[.slice none 0 0, .slice none 0 0] 47) g10
  have x20 := ka (.cells #[.slice none 0 0, .slice none 0 0] 47) g20
  have xe1 := ka (.cells #[.slice none 0 0, .slice none 0 0] 47) e1
  have xe2 := ka (.cells #[.slice none 0 0, .slice none 0 0] 47) e2
  have wn : IntKind.i64.wrap (n : Int) = n := IntWalk.i64_in _ (by omega)
  have n0 : (0 : Int) ≤ (n : Int) := Int.natCast_nonneg _
  have n1 : (n : Int) < (n : Int) + 1 := by omega
  have m1 : (0 : Int) < (m : Int) + 1 := by omega
  have nq : (d != c) = true := by rw [bne_iff_ne]; exact hnc
  go_enter Try.func71, Try.ntmps71
  go_wp2_with fail
  go_region_held3 (fun w' => w'.cell? ⟨b1, 0, none⟩ = some (.slice (some ⟨y1, z1, none⟩) (n + 1) C1) ∧ w'.cell? ⟨b2, 0, none⟩ = some (.slice (some ⟨y2, z2, none⟩) (m + 1) C2) ∧ w'.cell? ⟨y1, z1 + n, none⟩ = some (.int .i64 d) ∧ w'.cell? ⟨y2, z2, none⟩ = some (.int .i64 c)) (go_keep) (fail)
  go_wp2_with fail
  refine bodyPost_ret (v := .tuple #[.agg #[.slice none 0 0, .slice none 0 0], .bool false]) (by simp [results, Try.results71, go_sem]) rfl ⟨rfl, ?_⟩
  go_grown

theorem l00Own_row (xs : List Int) (n : Nat) (hn : xs.length = n) (hm : n ≤ 1048576) (A : Option Addr) (C : Nat) (w : World) (hl : Ints w xs A) :
    Calls Try.prog 102 #[.slice A n C] w fun e w' => ∃ Z D, e = .returned (.slice Z n D) ∧ w'.ownsRow w.heap.size 2 1 (.slice Z n D) n (encs xs) ∧ WordIn w' xs [] w.heap.size w'.heap.size Z none ∧ Below w.heap.size w w' := by
  subst hn
  refine (l00Own_any xs hm A C w hl).mono ?_
  rintro e w' ⟨v, rfl, h, hb⟩
  obtain ⟨Z, D, rfl, hi⟩ := own_ints h hb.size
  exact ⟨Z, D, rfl, h, ⟨_, hi, Or.inl ⟨rfl, Nat.le_refl _⟩⟩, hb⟩


set_option maxHeartbeats 8000000 in
set_option maxRecDepth 100000 in
theorem l01Fuse_cons (p1 r1 pt r2 : List Int) (n m : Nat) (c : Int) (hn : p1.length = n + 1) (hm : pt.length = m + 1) (hs : p1.length + pt.length + r1.length + r2.length ≤ 1048576) (b1 b2 y1 z1 y2 z2 : Nat) (B1 B2 : Option Addr) (C1 D1 D2 : Nat) (w : World)
    (g10 : w.cell? ⟨b1, 0, none⟩ = some (.slice (some ⟨y1, z1, none⟩) (n + 1) C1)) (g11 : w.cell? ⟨b1, 1, none⟩ = some (.slice B1 r1.length D1))
    (g20 : w.cell? ⟨b2, 0, none⟩ = some (.slice (some ⟨y2, z2, none⟩) (m + 1 + 1) (m + 1 + 1))) (g21 : w.cell? ⟨b2, 1, none⟩ = some (.slice B2 r2.length D2))
    (e1 : w.cell? ⟨y1, z1 + n, none⟩ = some (.int .i64 c)) (e2 : w.cell? ⟨y2, z2, none⟩ = some (.int .i64 c))
    (i1 : Ints w p1 (some ⟨y1, z1, none⟩)) (j1 : Ints w r1 B1) (i2 : Ints w pt (some ⟨y2, z2 + 1, none⟩)) (j2 : Ints w r2 B2) :
    Calls Try.prog 71 #[.pointer (some ⟨b1, 0, none⟩), .pointer (some ⟨b2, 0, none⟩)] w fun e w' => ∃ Z Y C D, e = .returned (.tuple #[.agg #[.slice Z (p1.length + pt.length) C, .slice Y (r1.length + r2.length) D], .bool true]) ∧ WordIn w' (p1 ++ pt) (r1 ++ r2) w.heap.size w'.heap.size Z Y ∧ Below w.heap.size w w' := by
  have x10 := ka (.cells #[.slice none 0 0, .slice none 0 0] 47) g10
  have x20 := ka (.cells #[.slice none 0 0, .slice none 0 0] 47) g20
  have x11 := ka (.cells #[.slice none 0 0, .slice none 0 0] 47) g11
  have x21 := ka (.cells #[.slice none 0 0, .slice none 0 0] 47) g21
  have xe1 := ka (.cells #[.slice none 0 0, .slice none 0 0] 47) e1
  have xe2 := ka (.cells #[.slice none 0 0, .slice none 0 0] 47) e2
  have wn : IntKind.i64.wrap (n : Int) = n := IntWalk.i64_in _ (by omega)
  have n0 : (0 : Int) ≤ (n : Int) := Int.natCast_nonneg _
  have n1 : (n : Int) < (n : Int) + 1 := by omega
  have m0 : (0 : Int) ≤ (m : Int) := Int.natCast_nonneg _
  have m1 : (0 : Int) < (m : Int) + 1 + 1 := by omega
  have m2 : (1 : Int) ≤ (m : Int) + 1 + 1 := by omega
  have nq : (c != c) = false := by simp
  obtain ⟨w0, hw0⟩ : ∃ w0, w0 = w.alloc (.cells #[.slice none 0 0, .slice none 0 0] 47) := ⟨_, rfl⟩
  have KO1 : Hid (∀ W : World, Sees w0 W → Calls Try.prog 102 #[.slice (some ⟨y1, z1, none⟩) (n + 1) C1] W fun e w' => ∃ Z D, e = .returned (.slice Z (n + 1) D) ∧ w'.ownsRow W.heap.size 2 1 (.slice Z (n + 1) D) (n + 1) (encs p1) ∧ WordIn w' p1 [] W.heap.size w'.heap.size Z none ∧ Below W.heap.size W w') := fun W h =>
    l00Own_row p1 (n + 1) hn (by omega) _ C1 W ((i1.alloc _).sees (by rw [← hw0]; exact h))
  have KO2 : Hid (∀ W : World, Sees w0 W → Calls Try.prog 102 #[.slice B1 r1.length D1] W fun e w' => ∃ Z D, e = .returned (.slice Z r1.length D) ∧ w'.ownsRow W.heap.size 2 1 (.slice Z r1.length D) r1.length (encs r1) ∧ WordIn w' r1 [] W.heap.size w'.heap.size Z none ∧ Below W.heap.size W w') := fun W h =>
    l00Own_row r1 r1.length rfl (by omega) _ D1 W ((j1.alloc _).sees (by rw [← hw0]; exact h))
  have HI2 : Hid (∀ _u : Unit, Ints w0 pt (some ⟨y2, z2 + 1, none⟩)) := fun _ => by rw [hw0]; exact i2.alloc _
  have HJ2 : Hid (Ints w0 r2 B2) := by rw [hw0]; exact j2.alloc _
  have HN := Lib.hid (And.intro hn hs)
  have HM : Hid (pt.length = m + 1) := by show _ = _; simp [hm]
  clear i1 j1 i2 j2 hn hs hm
  go_enter Try.func71, Try.ntmps71
  go_wp2_with fail
  go_region_held3 (fun w' => w'.cell? ⟨b1, 0, none⟩ = some (.slice (some ⟨y1, z1, none⟩) (n + 1) C1) ∧ w'.cell? ⟨b2, 0, none⟩ = some (.slice (some ⟨y2, z2, none⟩) (m + 1 + 1) (m + 1 + 1)) ∧ w'.cell? ⟨y1, z1 + n, none⟩ = some (.int .i64 c) ∧ w'.cell? ⟨y2, z2, none⟩ = some (.int .i64 c)) (go_keep) (fail)
  go_wp2_with fail
  rw [← hw0]
  have HR : Hid (Rg w0 [(b1, 0, .slice (some ⟨y1, z1, none⟩) (n + 1) C1), (b1, 1, .slice B1 r1.length D1), (b2, 0, .slice (some ⟨y2, z2, none⟩) (m + 1 + 1) (m + 1 + 1)), (b2, 1, .slice B2 r2.length D2)] [] w0) := Rg.start ⟨Below.refl _ _, by rw [hw0]; exact ⟨x10, x11, x20, x21, trivial⟩⟩
  have HW0 := Lib.hid hw0; clear hw0 x10 x11 x20 x21 xe1 xe2 g10 g11 g20 g21 e1 e2 nq
  go_cut [6] (fun sp wx => ∃ (b lo1 hi1 lo2 hi2 : Nat) (Z Y : Option Addr) (C D : Nat), sp = .pointer (some ⟨b, 0, none⟩) ∧ Rg w0 ((b, 0, .slice Z (p1.length + pt.length) C) :: (b, 1, .slice Y (r1.length + r2.length) D) :: [(b1, 0, .slice (some ⟨y1, z1, none⟩) (n + 1) C1), (b1, 1, .slice B1 r1.length D1), (b2, 0, .slice (some ⟨y2, z2, none⟩) (m + 1 + 1) (m + 1 + 1)), (b2, 1, .slice B2 r2.length D2)]) [⟨r1 ++ r2, [], lo2, hi2, Y, none⟩, ⟨p1 ++ pt, [], lo1, hi1, Z, none⟩] wx)
  case first =>
    go_region_held3 (fun w' => Sees w0 w' ∧ w'.cell? ⟨b1, 0, none⟩ = some (.slice (some ⟨y1, z1, none⟩) (n + 1) C1) ∧ w'.cell? ⟨b1, 1, none⟩ = some (.slice B1 r1.length D1) ∧ w'.cell? ⟨b2, 0, none⟩ = some (.slice (some ⟨y2, z2, none⟩) (m + 1 + 1) (m + 1 + 1)) ∧ w'.cell? ⟨b2, 1, none⟩ = some (.slice B2 r2.length D2) ∧ True)
      (first | exact HR.out.drew.drew.st | exact V2.st | exact U2.st | exact V1.st | exact U1.st | exact (V2.boxed _ _ _).st | exact (U2.boxed _ _ _).st | exact (V1.boxed _ _ _).st | exact (U1.boxed _ _ _).st | exact (HR.out.drew.drew.boxed _ _ _).st | exact V2.set1 _ _ | exact (V2.boxed _ _ _).set1 _ _ | (go_keep; done))
      (first
        | (go_at_call 102; refine (KO1.out _ ?_).mono ?_; exact St.sees (l := [(b1, 0, .slice (some ⟨y1, z1, none⟩) (n + 1) C1), (b1, 1, .slice B1 r1.length D1), (b2, 0, .slice (some ⟨y2, z2, none⟩) (m + 1 + 1) (m + 1 + 1)), (b2, 1, .slice B2 r2.length D2)]) (by assumption); rintro e w1 ⟨Zo1, Co1, rfl, R1, I1, hb1⟩; (first | have U1 := HR.out.drew.drew.result I1 hb1 | have U1 := (HR.out.boxedDD (.slice none 0 0) (.slice none 0 0) 47).result I1 hb1))
        | (go_at_call 102; refine (KO2.out _ ?_).mono ?_; exact St.sees (l := [(b1, 0, .slice (some ⟨y1, z1, none⟩) (n + 1) C1), (b1, 1, .slice B1 r1.length D1), (b2, 0, .slice (some ⟨y2, z2, none⟩) (m + 1 + 1) (m + 1 + 1)), (b2, 1, .slice B2 r2.length D2)]) (by assumption); rintro e w3 ⟨Zo2, Co2, rfl, R2, I2, hb2⟩; (first | have U2 := V1.result I2 hb2 | have U2 := (V1.boxed (.slice none 0 0) (.slice none 0 0) 47).result I2 hb2))
        | (refine step_append_ints _ (by rfl) _ _ (by rfl) _ (n + 1) (m + 1) _ (.slice Zo1 (n + 1) Co1) p1 pt _ (by rfl) (by rfl) R1 ((HI2.out ()).sees U1.st.1) HM.out.symm (by have := HN.out; have := HM.out; omega) hb1.size ?_; intro v' w2 Ra ga ha; obtain ⟨la2, ha2, Zv1, Cv1, hv, V1⟩ := U1.append R1 (own_lt R1) Ra ga ha; subst hv; clear ga ha Ra)
        | (refine step_append_ints _ (by rfl) _ _ (by rfl) _ (n + 1) (m + 1) _ (.slice Zo1 (n + 1) Co1) p1 pt _ (by rfl) (by rfl) (R1.alloc _) ((HI2.out ()).sees (U1.st.1.alloc _)) HM.out.symm (by have := HN.out; have := HM.out; omega) (Nat.le_trans hb1.size (by simp)) ?_; intro v' w2 Ra ga ha; obtain ⟨la2, ha2, Zv1, Cv1, hv, V1⟩ := (U1.boxed (.slice none 0 0) (.slice none 0 0) 47).append (R1.alloc _) (own_lt R1) Ra ga ha; subst hv; clear ga ha Ra)
        | (refine step_append_ints _ (by rfl) _ _ (by rfl) _ r1.length r2.length _ (.slice Zo2 r1.length Co2) r1 r2 B2 (by rfl) (by rfl) R2 (HJ2.out.sees U2.st.1) rfl (by have := HN.out; omega) hb2.size ?_; intro v' w4 Rb gb hb; obtain ⟨la4, ha4, Zv2, Cv2, hv, V2⟩ := U2.append R2 (own_lt R2) Rb gb hb; subst hv; clear gb hb Rb; (first | (obtain ⟨c0, c1, f0, f1⟩ := V2.facts) | skip))
        | (refine step_append_ints _ (by rfl) _ _ (by rfl) _ r1.length r2.length _ (.slice Zo2 r1.length Co2) r1 r2 B2 (by rfl) (by rfl) (R2.alloc _) (HJ2.out.sees (U2.st.1.alloc _)) rfl (by have := HN.out; omega) (Nat.le_trans hb2.size (by simp)) ?_; intro v' w4 Rb gb hb; obtain ⟨la4, ha4, Zv2, Cv2, hv, V2⟩ := (U2.boxed (.slice none 0 0) (.slice none 0 0) 47).append (R2.alloc _) (own_lt R2) Rb gb hb; subst hv; clear gb hb Rb; (first | (obtain ⟨c0, c1, f0, f1⟩ := V2.facts) | skip)))
    all_goals (go_wp2_with fail; go_meet; first | exact ⟨_, _, _, _, _, _, _, _, _, rfl, V2.fill _ _⟩ | exact ⟨_, _, _, _, _, _, _, _, _, rfl, (V2.boxed _ _ _).fill _ _⟩ | exact ⟨_, _, _, _, _, _, _, _, _, rfl, (V2.boxed _ _ _).rg⟩)
  case rest =>
  obtain ⟨b, lo1, hi1, lo2, hi2, Z, Y, C, D, rfl, T⟩ := hcut
  obtain ⟨wx, hwx, T⟩ := T.world
  subst hwx
  have hb0 : w.heap.size < w0.heap.size := by rw [HW0.out]; simp
  have k0 : wx.heap[w.heap.size]? = some (.cells #[.slice none 0 0, .slice none 0 0] 47 (0, 0)) := (T.st.1.block _ hb0).trans (by rw [HW0.out]; exact heap_new _ _ _ rfl)
  obtain ⟨_, q0, q1, _⟩ := T.st
  obtain ⟨c0, c1, f0, f1⟩ := box_facts k0
  clear HR
  have HR := Lib.hid T; have HK := Lib.hid k0; have HB0 := Lib.hid hb0
  clear T k0 hb0
  go_wp2_with fail
  have hwd := HR.out.two (b := w.heap.size) (l0 := w.heap.size) (u := .slice Z (p1.length + pt.length) C) (v := .slice Y (r1.length + r2.length) D) HB0.out (Nat.le_of_lt HB0.out)
  have hbl : Below w.heap.size w ((wx.setCell ⟨w.heap.size, 0, none⟩ (.slice Z (p1.length + pt.length) C)).setCell ⟨w.heap.size, 1, none⟩ (.slice Y (r1.length + r2.length) D)) :=
    Below.setCell (Below.setCell (Below.trans (by rw [HW0.out]; exact (Below.refl _ _).alloc (Nat.le_refl _) _) (HR.out.st.1.mono (Nat.le_of_lt HB0.out))) (Nat.le_refl _) _) (Nat.le_refl _) _
  have q2 : ((wx.setCell ⟨w.heap.size, 0, none⟩ (.slice Z (p1.length + pt.length) C)).setCell ⟨w.heap.size, 1, none⟩ (.slice Y (r1.length + r2.length) D)).heap[w.heap.size]? = some (.cells #[.slice Z (p1.length + pt.length) C, .slice Y (r1.length + r2.length) D] 47 (0, 0)) := by
    rw [Fo.block_setCell (Fo.block_setCell HK.out _) _]
    rfl
  generalize (wx.setCell ⟨w.heap.size, 0, none⟩ (.slice Z (p1.length + pt.length) C)).setCell ⟨w.heap.size, 1, none⟩ (.slice Y (r1.length + r2.length) D) = j at hwd hbl q2 ⊢
  obtain ⟨q20, q21, _, _⟩ := box_facts q2
  refine bodyPost_ret (v := .tuple #[.agg #[.slice Z (p1.length + pt.length) C, .slice Y (r1.length + r2.length) D], .bool true]) (by simp [results, Try.results71, go_sem, q20, q21]) rfl ⟨Z, Y, ⟨C, D, rfl⟩, hwd, hbl⟩

set_option maxHeartbeats 8000000 in
set_option maxRecDepth 100000 in
theorem l01Fuse_nil (p1 r1 pt r2 : List Int) (n : Nat) (c : Int) (hn : p1.length = n + 1) (hm : pt = []) (hs : p1.length + pt.length + r1.length + r2.length ≤ 1048576) (b1 b2 y1 z1 y2 z2 : Nat) (B1 B2 : Option Addr) (C1 D1 D2 : Nat) (w : World)
    (g10 : w.cell? ⟨b1, 0, none⟩ = some (.slice (some ⟨y1, z1, none⟩) (n + 1) C1)) (g11 : w.cell? ⟨b1, 1, none⟩ = some (.slice B1 r1.length D1))
    (g20 : w.cell? ⟨b2, 0, none⟩ = some (.slice (some ⟨y2, z2, none⟩) 1 1)) (g21 : w.cell? ⟨b2, 1, none⟩ = some (.slice B2 r2.length D2))
    (e1 : w.cell? ⟨y1, z1 + n, none⟩ = some (.int .i64 c)) (e2 : w.cell? ⟨y2, z2, none⟩ = some (.int .i64 c))
    (i1 : Ints w p1 (some ⟨y1, z1, none⟩)) (j1 : Ints w r1 B1)  (j2 : Ints w r2 B2) :
    Calls Try.prog 71 #[.pointer (some ⟨b1, 0, none⟩), .pointer (some ⟨b2, 0, none⟩)] w fun e w' => ∃ Z Y C D, e = .returned (.tuple #[.agg #[.slice Z (p1.length + pt.length) C, .slice Y (r1.length + r2.length) D], .bool true]) ∧ WordIn w' (p1 ++ pt) (r1 ++ r2) w.heap.size w'.heap.size Z Y ∧ Below w.heap.size w w' := by
  have x10 := ka (.cells #[.slice none 0 0, .slice none 0 0] 47) g10
  have x20 := ka (.cells #[.slice none 0 0, .slice none 0 0] 47) g20
  have x11 := ka (.cells #[.slice none 0 0, .slice none 0 0] 47) g11
  have x21 := ka (.cells #[.slice none 0 0, .slice none 0 0] 47) g21
  have xe1 := ka (.cells #[.slice none 0 0, .slice none 0 0] 47) e1
  have xe2 := ka (.cells #[.slice none 0 0, .slice none 0 0] 47) e2
  have wn : IntKind.i64.wrap (n : Int) = n := IntWalk.i64_in _ (by omega)
  have n0 : (0 : Int) ≤ (n : Int) := Int.natCast_nonneg _
  have n1 : (n : Int) < (n : Int) + 1 := by omega
  have nq : (c != c) = false := by simp
  obtain ⟨w0, hw0⟩ : ∃ w0, w0 = w.alloc (.cells #[.slice none 0 0, .slice none 0 0] 47) := ⟨_, rfl⟩
  have KO1 : Hid (∀ W : World, Sees w0 W → Calls Try.prog 102 #[.slice (some ⟨y1, z1, none⟩) (n + 1) C1] W fun e w' => ∃ Z D, e = .returned (.slice Z (n + 1) D) ∧ w'.ownsRow W.heap.size 2 1 (.slice Z (n + 1) D) (n + 1) (encs p1) ∧ WordIn w' p1 [] W.heap.size w'.heap.size Z none ∧ Below W.heap.size W w') := fun W h =>
    l00Own_row p1 (n + 1) hn (by omega) _ C1 W ((i1.alloc _).sees (by rw [← hw0]; exact h))
  have KO2 : Hid (∀ W : World, Sees w0 W → Calls Try.prog 102 #[.slice B1 r1.length D1] W fun e w' => ∃ Z D, e = .returned (.slice Z r1.length D) ∧ w'.ownsRow W.heap.size 2 1 (.slice Z r1.length D) r1.length (encs r1) ∧ WordIn w' r1 [] W.heap.size w'.heap.size Z none ∧ Below W.heap.size W w') := fun W h =>
    l00Own_row r1 r1.length rfl (by omega) _ D1 W ((j1.alloc _).sees (by rw [← hw0]; exact h))
  have HI2 : Hid (∀ A2 : Option Addr, Ints w0 pt A2) := fun A2 h => absurd hm h
  have HJ2 : Hid (Ints w0 r2 B2) := by rw [hw0]; exact j2.alloc _
  have HN := Lib.hid (And.intro hn hs)
  have HM : Hid (pt.length = 0) := by show _ = _; simp [hm]
  clear i1 j1 j2 hn hs hm
  go_enter Try.func71, Try.ntmps71
  go_wp2_with fail
  go_region_held3 (fun w' => w'.cell? ⟨b1, 0, none⟩ = some (.slice (some ⟨y1, z1, none⟩) (n + 1) C1) ∧ w'.cell? ⟨b2, 0, none⟩ = some (.slice (some ⟨y2, z2, none⟩) 1 1) ∧ w'.cell? ⟨y1, z1 + n, none⟩ = some (.int .i64 c) ∧ w'.cell? ⟨y2, z2, none⟩ = some (.int .i64 c)) (go_keep) (fail)
  go_wp2_with fail
  rw [← hw0]
  have HR : Hid (Rg w0 [(b1, 0, .slice (some ⟨y1, z1, none⟩) (n + 1) C1), (b1, 1, .slice B1 r1.length D1), (b2, 0, .slice (some ⟨y2, z2, none⟩) 1 1), (b2, 1, .slice B2 r2.length D2)] [] w0) := Rg.start ⟨Below.refl _ _, by rw [hw0]; exact ⟨x10, x11, x20, x21, trivial⟩⟩
  have HW0 := Lib.hid hw0; clear hw0 x10 x11 x20 x21 xe1 xe2 g10 g11 g20 g21 e1 e2 nq
  go_cut [6] (fun sp wx => ∃ (b lo1 hi1 lo2 hi2 : Nat) (Z Y : Option Addr) (C D : Nat), sp = .pointer (some ⟨b, 0, none⟩) ∧ Rg w0 ((b, 0, .slice Z (p1.length + pt.length) C) :: (b, 1, .slice Y (r1.length + r2.length) D) :: [(b1, 0, .slice (some ⟨y1, z1, none⟩) (n + 1) C1), (b1, 1, .slice B1 r1.length D1), (b2, 0, .slice (some ⟨y2, z2, none⟩) 1 1), (b2, 1, .slice B2 r2.length D2)]) [⟨r1 ++ r2, [], lo2, hi2, Y, none⟩, ⟨p1 ++ pt, [], lo1, hi1, Z, none⟩] wx)
  case first =>
    go_region_held3 (fun w' => Sees w0 w' ∧ w'.cell? ⟨b1, 0, none⟩ = some (.slice (some ⟨y1, z1, none⟩) (n + 1) C1) ∧ w'.cell? ⟨b1, 1, none⟩ = some (.slice B1 r1.length D1) ∧ w'.cell? ⟨b2, 0, none⟩ = some (.slice (some ⟨y2, z2, none⟩) 1 1) ∧ w'.cell? ⟨b2, 1, none⟩ = some (.slice B2 r2.length D2) ∧ True)
      (first | exact HR.out.drew.drew.st | exact V2.st | exact U2.st | exact V1.st | exact U1.st | exact (V2.boxed _ _ _).st | exact (U2.boxed _ _ _).st | exact (V1.boxed _ _ _).st | exact (U1.boxed _ _ _).st | exact (HR.out.drew.drew.boxed _ _ _).st | exact V2.set1 _ _ | exact (V2.boxed _ _ _).set1 _ _ | (go_keep; done))
      (first
        | (go_at_call 102; refine (KO1.out _ ?_).mono ?_; exact St.sees (l := [(b1, 0, .slice (some ⟨y1, z1, none⟩) (n + 1) C1), (b1, 1, .slice B1 r1.length D1), (b2, 0, .slice (some ⟨y2, z2, none⟩) 1 1), (b2, 1, .slice B2 r2.length D2)]) (by assumption); rintro e w1 ⟨Zo1, Co1, rfl, R1, I1, hb1⟩; (first | have U1 := HR.out.drew.drew.result I1 hb1 | have U1 := (HR.out.boxedDD (.slice none 0 0) (.slice none 0 0) 47).result I1 hb1))
        | (go_at_call 102; refine (KO2.out _ ?_).mono ?_; exact St.sees (l := [(b1, 0, .slice (some ⟨y1, z1, none⟩) (n + 1) C1), (b1, 1, .slice B1 r1.length D1), (b2, 0, .slice (some ⟨y2, z2, none⟩) 1 1), (b2, 1, .slice B2 r2.length D2)]) (by assumption); rintro e w3 ⟨Zo2, Co2, rfl, R2, I2, hb2⟩; (first | have U2 := V1.result I2 hb2 | have U2 := (V1.boxed (.slice none 0 0) (.slice none 0 0) 47).result I2 hb2))
        | (refine step_append_ints _ (by rfl) _ _ (by rfl) _ (n + 1) 0 _ (.slice Zo1 (n + 1) Co1) p1 pt _ (by rfl) (by rfl) R1 ((HI2.out _).sees U1.st.1) HM.out.symm (by have := HN.out; have := HM.out; omega) hb1.size ?_; intro v' w2 Ra ga ha; obtain ⟨la2, ha2, Zv1, Cv1, hv, V1⟩ := U1.append R1 (own_lt R1) Ra ga ha; subst hv; clear ga ha Ra)
        | (refine step_append_ints _ (by rfl) _ _ (by rfl) _ (n + 1) 0 _ (.slice Zo1 (n + 1) Co1) p1 pt _ (by rfl) (by rfl) (R1.alloc _) ((HI2.out _).sees (U1.st.1.alloc _)) HM.out.symm (by have := HN.out; have := HM.out; omega) (Nat.le_trans hb1.size (by simp)) ?_; intro v' w2 Ra ga ha; obtain ⟨la2, ha2, Zv1, Cv1, hv, V1⟩ := (U1.boxed (.slice none 0 0) (.slice none 0 0) 47).append (R1.alloc _) (own_lt R1) Ra ga ha; subst hv; clear ga ha Ra)
        | (refine step_append_ints _ (by rfl) _ _ (by rfl) _ r1.length r2.length _ (.slice Zo2 r1.length Co2) r1 r2 B2 (by rfl) (by rfl) R2 (HJ2.out.sees U2.st.1) rfl (by have := HN.out; omega) hb2.size ?_; intro v' w4 Rb gb hb; obtain ⟨la4, ha4, Zv2, Cv2, hv, V2⟩ := U2.append R2 (own_lt R2) Rb gb hb; subst hv; clear gb hb Rb; (first | (obtain ⟨c0, c1, f0, f1⟩ := V2.facts) | skip))
        | (refine step_append_ints _ (by rfl) _ _ (by rfl) _ r1.length r2.length _ (.slice Zo2 r1.length Co2) r1 r2 B2 (by rfl) (by rfl) (R2.alloc _) (HJ2.out.sees (U2.st.1.alloc _)) rfl (by have := HN.out; omega) (Nat.le_trans hb2.size (by simp)) ?_; intro v' w4 Rb gb hb; obtain ⟨la4, ha4, Zv2, Cv2, hv, V2⟩ := (U2.boxed (.slice none 0 0) (.slice none 0 0) 47).append (R2.alloc _) (own_lt R2) Rb gb hb; subst hv; clear gb hb Rb; (first | (obtain ⟨c0, c1, f0, f1⟩ := V2.facts) | skip)))
    all_goals (go_wp2_with fail; go_meet; first | exact ⟨_, _, _, _, _, _, _, _, _, rfl, V2.fill _ _⟩ | exact ⟨_, _, _, _, _, _, _, _, _, rfl, (V2.boxed _ _ _).fill _ _⟩ | exact ⟨_, _, _, _, _, _, _, _, _, rfl, (V2.boxed _ _ _).rg⟩)
  case rest =>
  obtain ⟨b, lo1, hi1, lo2, hi2, Z, Y, C, D, rfl, T⟩ := hcut
  obtain ⟨wx, hwx, T⟩ := T.world
  subst hwx
  have hb0 : w.heap.size < w0.heap.size := by rw [HW0.out]; simp
  have k0 : wx.heap[w.heap.size]? = some (.cells #[.slice none 0 0, .slice none 0 0] 47 (0, 0)) := (T.st.1.block _ hb0).trans (by rw [HW0.out]; exact heap_new _ _ _ rfl)
  obtain ⟨_, q0, q1, _⟩ := T.st
  obtain ⟨c0, c1, f0, f1⟩ := box_facts k0
  clear HR
  have HR := Lib.hid T; have HK := Lib.hid k0; have HB0 := Lib.hid hb0
  clear T k0 hb0
  go_wp2_with fail
  have hwd := HR.out.two (b := w.heap.size) (l0 := w.heap.size) (u := .slice Z (p1.length + pt.length) C) (v := .slice Y (r1.length + r2.length) D) HB0.out (Nat.le_of_lt HB0.out)
  have hbl : Below w.heap.size w ((wx.setCell ⟨w.heap.size, 0, none⟩ (.slice Z (p1.length + pt.length) C)).setCell ⟨w.heap.size, 1, none⟩ (.slice Y (r1.length + r2.length) D)) :=
    Below.setCell (Below.setCell (Below.trans (by rw [HW0.out]; exact (Below.refl _ _).alloc (Nat.le_refl _) _) (HR.out.st.1.mono (Nat.le_of_lt HB0.out))) (Nat.le_refl _) _) (Nat.le_refl _) _
  have q2 : ((wx.setCell ⟨w.heap.size, 0, none⟩ (.slice Z (p1.length + pt.length) C)).setCell ⟨w.heap.size, 1, none⟩ (.slice Y (r1.length + r2.length) D)).heap[w.heap.size]? = some (.cells #[.slice Z (p1.length + pt.length) C, .slice Y (r1.length + r2.length) D] 47 (0, 0)) := by
    rw [Fo.block_setCell (Fo.block_setCell HK.out _) _]
    rfl
  generalize (wx.setCell ⟨w.heap.size, 0, none⟩ (.slice Z (p1.length + pt.length) C)).setCell ⟨w.heap.size, 1, none⟩ (.slice Y (r1.length + r2.length) D) = j at hwd hbl q2 ⊢
  obtain ⟨q20, q21, _, _⟩ := box_facts q2
  refine bodyPost_ret (v := .tuple #[.agg #[.slice Z (p1.length + pt.length) C, .slice Y (r1.length + r2.length) D], .bool true]) (by simp [results, Try.results71, go_sem, q20, q21]) rfl ⟨Z, Y, ⟨C, D, rfl⟩, hwd, hbl⟩
end Go.Proofs.Ytcpeiajniblipaa
