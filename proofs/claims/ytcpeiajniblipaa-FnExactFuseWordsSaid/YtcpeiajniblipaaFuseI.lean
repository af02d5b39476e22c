/- Contract of impl.FuseWords. -/
import Derived.Test.YtcpeiajniblipaaFuseD
import Derived.Deep.RegionHeld3
import Derived.Deep.DrawnRows
namespace Go.Proofs.Ytcpeiajniblipaa
open Go.RowKit
attribute [local go_sem ↓] Go.wp_at_zero Go.wp_at_succ

section
variable {w W : World} {L : List (Nat × Nat × Value)} {O : List OwnW} {b : Nat} {x y : Value} {T : TypeId}
theorem RgB.start (h : St w ((b, 0, x) :: (b, 1, y) :: L) W) (hk : W.heap[b]? = some (.cells #[x, y] T (0, 0))) (ne : ∀ c ∈ L, c.1 ≠ b) (low : w.heap.size ≤ b) : RgB w L [] b x y T W := ⟨⟨h.1, h.2.2.2⟩, OwnAll.start h, hk, ne, low⟩
theorem RgB.al (h : RgB w L O b x y T W) (o : Obj) : RgB w L O b x y T (W.alloc o) := h.below ((Below.refl _ _).alloc (Nat.le_refl _) _)
theorem Rg.pair {p r : List Int} {lo1 hi1 lo2 hi2 : Nat} {Z Y B1 B2 : Option Addr} (h : Rg w L [⟨r, [], lo2, hi2, Y, B2⟩, ⟨p, [], lo1, hi1, Z, B1⟩] W) : WordIn W p r w.heap.size W.heap.size Z Y := by
  have e2 := h.own.each ⟨r, [], lo2, hi2, Y, B2⟩ (by simp)
  have e1 := h.own.each ⟨p, [], lo1, hi1, Z, B1⟩ (by simp)
  have hap : hi1 ≤ lo2 := (List.pairwise_cons.1 h.own.apart).1 ⟨p, [], lo1, hi1, Z, B1⟩ (by simp)
  obtain ⟨m2, i2, j2⟩ := e2.1
  obtain ⟨m1, i1, j1⟩ := e1.1
  have q1 := e1.2.1
  have q3 := e2.2.2.1
  simp only at q1 q3 i1 i2 j1 j2
  have l2 := j1.le
  have l4 := j2.le
  exact ⟨hi1, i1.mono q1 l2, i2.mono hap (by omega)⟩
end
theorem concat_two (xs ys : List Int) (hx : xs.length + ys.length ≤ 1048576) (b : Nat) (A B : Option Addr) (C D : Nat) (w : World) (h1 : w.cell? ⟨b, 0, none⟩ = some (.slice A xs.length C)) (h2 : w.cell? ⟨b, 1, none⟩ = some (.slice B ys.length D)) (i1 : Ints w xs A) (i2 : Ints w ys B) :
    Calls Try.prog 72 #[.slice (some ⟨b, 0, none⟩) 2 2] w fun e w' => ∃ Z C', e = .returned (.slice Z (xs.length + ys.length) C') ∧ WordIn w' (xs ++ ys) [] w.heap.size w'.heap.size Z none ∧ Below w.heap.size w w' := by
  have hr : Rows2 w [xs, ys] b := by
    intro i hlt
    match i, hlt with
    | 0, _ => exact ⟨A, C, h1, i1⟩
    | 1, _ => exact ⟨B, D, h2, i2⟩
  refine (concat_any [xs, ys] (by simp; omega) (by simp) b 2 w hr).mono ?_
  rintro e w' ⟨Z, C', rfl, hi, hb⟩
  refine ⟨Z, C', by simp, ⟨_, by simpa using hi, Or.inl ⟨rfl, Nat.le_refl _⟩⟩, hb⟩

set_option maxHeartbeats 8000000 in
set_option maxRecDepth 100000 in
theorem implFuseWords_any (t a : Int) (p1 r1 p2 r2 : List Int) (h0 : p1.length + r1.length + p2.length + r2.length ≤ 1048576) (A1 B1 A2 B2 : Option Addr) (w : World) (hl1 : Ints w p1 A1) (hr1 : Ints w r1 B1) (hl2 : Ints w p2 A2) (hr2 : Ints w r2 B2) :
    Calls Try.prog 35 #[.agg #[.int .i64 t, .int .i64 a], .agg #[.slice A1 p1.length p1.length, .slice B1 r1.length r1.length], .agg #[.slice A2 p2.length p2.length, .slice B2 r2.length r2.length]] w (WordEnd (fuseU t a p1 r1 p2 r2) (fuseV t a p1 r1 p2 r2) (fuseC t a p1 r1 p2 r2) w) := by
  obtain ⟨l2, hl⟩ : ∃ l2, l2 = p2.length := ⟨_, rfl⟩
  have N0 : Hid (p1.length + r1.length + l2 + r2.length ≤ 1048576) := by rw [hl]; exact h0
  rw [← hl]
  obtain ⟨w0, hw0⟩ : ∃ w0, w0 = (((w.alloc (.cells #[.int .i64 t, .int .i64 a] 30)).alloc (.cells #[.slice A1 p1.length p1.length, .slice B1 r1.length r1.length] 47)).alloc (.cells #[.slice A2 l2 l2, .slice B2 r2.length r2.length] 47)).alloc (.cells #[.slice none 0 0, .slice none 0 0] 47) := ⟨_, rfl⟩
  have HS : Hid (RgB w [(w.heap.size, 0, .int .i64 t), (w.heap.size, 1, .int .i64 a), (w.heap.size + 1, 0, .slice A1 p1.length p1.length), (w.heap.size + 1, 1, .slice B1 r1.length r1.length), (w.heap.size + 1 + 1, 0, .slice A2 l2 l2), (w.heap.size + 1 + 1, 1, .slice B2 r2.length r2.length)] [] (w.heap.size + 1 + 1 + 1) (.slice none 0 0) (.slice none 0 0) 47 w0) := by
    show RgB _ _ _ _ _ _ _ _
    rw [hw0]
    refine RgB.start ⟨(by unfold Sees; go_grown), (by simp [go_sem]), (by simp [go_sem]), (by simp [go_sem]), (by simp [go_sem]), (by simp [go_sem]), (by simp [go_sem]), (by simp [go_sem]), (by simp [go_sem]), trivial⟩ (heap_new _ _ _ (by simp)) ?_ (by omega)
    intro c hc
    simp only [List.mem_cons, List.not_mem_nil, or_false] at hc
    rcases hc with rfl | rfl | rfl | rfl | rfl | rfl <;> simp only <;> omega
  obtain ⟨q1, hq1⟩ : ∃ q1 : Bool, q1 = validW t a p1 r1 := ⟨_, rfl⟩
  obtain ⟨q2, hq2⟩ : ∃ q2 : Bool, q2 = validW t a p2 r2 := ⟨_, rfl⟩
  have K1 : Hid (∀ W : World, Sees w W → Calls Try.prog 28 #[.agg #[.int .i64 t, .int .i64 a], .agg #[.slice A1 p1.length p1.length, .slice B1 r1.length r1.length]] W fun e w' => e = .returned (.bool q1) ∧ Below W.heap.size W w') := fun W h => by
    rw [hq1]
    exact implValidWord_any t a p1 r1 (by omega) A1 B1 _ _ W (hl1.sees h) (hr1.sees h)
  have K2 : Hid (∀ W : World, Sees w W → Calls Try.prog 28 #[.agg #[.int .i64 t, .int .i64 a], .agg #[.slice A2 l2 l2, .slice B2 r2.length r2.length]] W fun e w' => e = .returned (.bool q2) ∧ Below W.heap.size W w') := fun W h => by
    rw [hq2, hl]
    exact implValidWord_any t a p2 r2 (by omega) A2 B2 _ _ W (hl2.sees h) (hr2.sees h)
  clear h0
  have HL := Lib.hid hl; clear hl
  cases q1
  · obtain ⟨e1, e2, e3⟩ := fuse_bad (p2 := p2) (r2 := r2) (by rw [← hq1]; rfl)
    rw [e1, e2, e3]
    clear e1 e2 e3 hq1 hq2 hl1 hr1 hl2 hr2
    go_enter Try.func35, Try.ntmps35
    go_wp2_with fail
    rw [← hw0]
    refine (K1.out _ HS.out.st.1).mono ?_
    rintro e w1 ⟨rfl, hb⟩
    have S1 := Lib.hid (HS.out.below hb)
    clear hb
    clear hw0 HS
    obtain ⟨_, x1, x2, x3, x4, x5, x6, _⟩ := S1.out.st
    obtain ⟨rb0, rb1, zb0, zb1⟩ := S1.out.facts
    go_wp2_with fail
    have G := (S1.out.fill (.slice none 0 0) (.slice none 0 0))
    generalize (((w1).setCell ⟨w.heap.size + 1 + 1 + 1, 0, none⟩ (.slice none 0 0)).setCell ⟨w.heap.size + 1 + 1 + 1, 1, none⟩ (.slice none 0 0)) = j at G ⊢
    obtain ⟨hb, g0, g1, _⟩ := G.st
    refine bodyPost_ret (v := .tuple #[.agg #[.slice none 0 0, .slice none 0 0], .int .i64 1]) (by simp [results, Try.results35, go_sem, g0, g1]) rfl ⟨none, none, 0, 0, rfl, WordIn.empty hb.size _ _, hb⟩

  cases q2
  · obtain ⟨e1, e2, e3⟩ := fuse_bad (p1 := p1) (r1 := r1) (p2 := p2) (r2 := r2) (by rw [← hq1, ← hq2]; rfl)
    rw [e1, e2, e3]
    clear e1 e2 e3 hq1 hq2 hl1 hr1 hl2 hr2
    go_enter Try.func35, Try.ntmps35
    go_wp2_with fail
    rw [← hw0]
    refine (K1.out _ HS.out.st.1).mono ?_
    rintro e w1 ⟨rfl, hb⟩
    have S1 := Lib.hid (HS.out.below hb)
    clear hb
    clear hw0 HS
    obtain ⟨_, x1, x2, x3, x4, x5, x6, _⟩ := S1.out.st
    obtain ⟨rb0, rb1, zb0, zb1⟩ := S1.out.facts
    go_wp2_with fail
    clear x1 x2 x3 x4 x5 x6
    clear rb0 rb1 zb0 zb1
    refine (K2.out _ S1.out.st.1).mono ?_
    rintro e w2 ⟨rfl, hb⟩
    have S2 := Lib.hid (S1.out.below hb)
    clear hb
    clear S1
    obtain ⟨_, x1, x2, x3, x4, x5, x6, _⟩ := S2.out.st
    obtain ⟨rb0, rb1, zb0, zb1⟩ := S2.out.facts
    go_wp2_with fail
    have G := (S2.out.fill (.slice none 0 0) (.slice none 0 0))
    generalize (((w2).setCell ⟨w.heap.size + 1 + 1 + 1, 0, none⟩ (.slice none 0 0)).setCell ⟨w.heap.size + 1 + 1 + 1, 1, none⟩ (.slice none 0 0)) = j at G ⊢
    obtain ⟨hb, g0, g1, _⟩ := G.st
    refine bodyPost_ret (v := .tuple #[.agg #[.slice none 0 0, .slice none 0 0], .int .i64 1]) (by simp [results, Try.results35, go_sem, g0, g1]) rfl ⟨none, none, 0, 0, rfl, WordIn.empty hb.size _ _, hb⟩

  obtain ⟨n1, n2⟩ := validW_len hq1.symm
  obtain ⟨m1, m2⟩ := validW_len hq2.symm
  obtain ⟨c, pt, hp2⟩ : ∃ c pt, Hid (p2 = c :: pt) := by
    cases p2 with
    | nil => simp at m1
    | cons c pt => exact ⟨c, pt, rfl⟩
  have m3 : Hid (l2 = pt.length + 1) := by show _ = _; rw [HL.out, hp2.out]; rfl
  have hd : Hid (nth p2 0 = c) := by show _ = _; rw [hp2.out]; rfl
  obtain ⟨y2, z2, rfl, e2, i2⟩ := Ints.first (c := c) (pt := pt) (by rw [← hp2.out]; exact hl2)
  obtain ⟨y1, z1, rfl, hc1⟩ := hl1 (by intro h; rw [h] at n1; simp at n1)
  obtain ⟨d, hdd⟩ : ∃ d, Hid (d = nth p1 r1.length) := ⟨_, rfl⟩
  have e1 : w.cell? ⟨y1, z1 + r1.length, none⟩ = some (.int .i64 d) := by rw [hdd.out]; exact hc1 r1.length (by omega)
  have i1 := hl1; clear hl1 hl2
  have d0 : (0 : Int) ≤ (r1.length : Int) := Int.natCast_nonneg _
  have d1 : (r1.length : Int) < (p1.length : Int) := by omega
  have dl : (0 : Int) < (l2 : Int) := by have := m3.out; omega
  have dl2 : 0 < l2 := by have := m3.out; omega
  clear n1 m1 hc1
  by_cases heq : d = c
  case neg =>
    obtain ⟨u1, u2, u3⟩ := fuse_apart hq1.symm hq2.symm (by rw [hd.out, ← hdd.out]; exact heq)
    rw [u1, u2, u3]
    have nq : (d != c) = true := by rw [bne_iff_ne]; exact heq
    clear u1 u2 u3 hq1 hq2 hr1 hr2 i1 i2 heq
    go_enter Try.func35, Try.ntmps35
    go_wp2_with fail
    rw [← hw0]
    refine (K1.out _ HS.out.st.1).mono ?_
    rintro e w1 ⟨rfl, hb⟩
    have S1 := Lib.hid (HS.out.below hb)
    clear hb
    clear hw0 HS
    obtain ⟨_, x1, x2, x3, x4, x5, x6, _⟩ := S1.out.st
    obtain ⟨rb0, rb1, zb0, zb1⟩ := S1.out.facts
    go_wp2_with fail
    clear x1 x2 x3 x4 x5 x6
    clear rb0 rb1 zb0 zb1
    refine (K2.out _ S1.out.st.1).mono ?_
    rintro e w2 ⟨rfl, hb⟩
    have S2 := Lib.hid (S1.out.below hb)
    clear hb
    clear S1
    obtain ⟨_, x1, x2, x3, x4, x5, x6, _⟩ := S2.out.st
    obtain ⟨rb0, rb1, zb0, zb1⟩ := S2.out.facts
    go_wp2_with fail
    have ce1 := kc S2.out.st.1 e1
    have ce2 := kc S2.out.st.1 e2
    go_region_held3 (fun w' => w'.cell? ⟨w.heap.size + 1, 0, none⟩ = some (.slice (some ⟨y1, z1, none⟩) p1.length p1.length) ∧ w'.cell? ⟨w.heap.size + 1, 1, none⟩ = some (.slice B1 r1.length r1.length) ∧ w'.cell? ⟨w.heap.size + 1 + 1, 0, none⟩ = some (.slice (some ⟨y2, z2, none⟩) l2 l2) ∧ w'.cell? ⟨y1, z1 + r1.length, none⟩ = some (.int .i64 d) ∧ w'.cell? ⟨y2, z2, none⟩ = some (.int .i64 c)) (first | (go_keep; done) | exact ⟨x3, x4, x5, ce1, ce2⟩) (fail)
    go_wp2_with fail
    have G := (S2.out.fill (.slice none 0 0) (.slice none 0 0)).drew
    generalize (((w2).setCell ⟨w.heap.size + 1 + 1 + 1, 0, none⟩ (.slice none 0 0)).setCell ⟨w.heap.size + 1 + 1 + 1, 1, none⟩ (.slice none 0 0)).drew = j at G ⊢
    obtain ⟨hb, g0, g1, _⟩ := G.st
    refine bodyPost_ret (v := .tuple #[.agg #[.slice none 0 0, .slice none 0 0], .int .i64 4]) (by simp [results, Try.results35, go_sem, g0, g1]) rfl ⟨none, none, 0, 0, rfl, WordIn.empty hb.size _ _, hb⟩

  subst heq
  have nq : (d != d) = false := by simp
  have h3 : Hid (nth p1 r1.length = nth p2 0) := hdd.out.symm.trans hd.out.symm
  have ws : IntKind.i64.wrap ((r1.length : Int) + (r2.length : Int)) = (r1.length : Int) + (r2.length : Int) := IntWalk.i64_in _ (by omega)
  by_cases hlong : r1.length + r2.length ≤ 10
  case neg =>
    obtain ⟨u1, u2, u3⟩ := fuse_long hq1.symm hq2.symm h3.out hlong
    rw [u1, u2, u3]
    have zl : decide ((10 : Int) < (r1.length : Int) + (r2.length : Int)) = true := decide_eq_true (by omega)
    clear u1 u2 u3 hq1 hq2 hlong hr1 hr2 i1 i2 n2 m2
    go_enter Try.func35, Try.ntmps35
    go_wp2_with fail
    rw [← hw0]
    refine (K1.out _ HS.out.st.1).mono ?_
    rintro e w1 ⟨rfl, hb⟩
    have S1 := Lib.hid (HS.out.below hb)
    clear hb
    clear hw0 HS
    obtain ⟨_, x1, x2, x3, x4, x5, x6, _⟩ := S1.out.st
    obtain ⟨rb0, rb1, zb0, zb1⟩ := S1.out.facts
    go_wp2_with fail
    clear x1 x2 x3 x4 x5 x6
    clear rb0 rb1 zb0 zb1
    refine (K2.out _ S1.out.st.1).mono ?_
    rintro e w2 ⟨rfl, hb⟩
    have S2 := Lib.hid (S1.out.below hb)
    clear hb
    clear S1
    obtain ⟨_, x1, x2, x3, x4, x5, x6, _⟩ := S2.out.st
    obtain ⟨rb0, rb1, zb0, zb1⟩ := S2.out.facts
    go_wp2_with fail
    have ce1 := kc S2.out.st.1 e1
    have ce2 := kc S2.out.st.1 e2
    go_region_held3 (fun w' => w'.cell? ⟨w.heap.size + 1, 0, none⟩ = some (.slice (some ⟨y1, z1, none⟩) p1.length p1.length) ∧ w'.cell? ⟨w.heap.size + 1, 1, none⟩ = some (.slice B1 r1.length r1.length) ∧ w'.cell? ⟨w.heap.size + 1 + 1, 0, none⟩ = some (.slice (some ⟨y2, z2, none⟩) l2 l2) ∧ w'.cell? ⟨y1, z1 + r1.length, none⟩ = some (.int .i64 d) ∧ w'.cell? ⟨y2, z2, none⟩ = some (.int .i64 d)) (first | (go_keep; done) | exact ⟨x3, x4, x5, ce1, ce2⟩) (fail)
    go_wp2_with fail
    have G := (S2.out.fill (.slice none 0 0) (.slice none 0 0)).drew
    generalize (((w2).setCell ⟨w.heap.size + 1 + 1 + 1, 0, none⟩ (.slice none 0 0)).setCell ⟨w.heap.size + 1 + 1 + 1, 1, none⟩ (.slice none 0 0)).drew = j at G ⊢
    obtain ⟨hb, g0, g1, _⟩ := G.st
    refine bodyPost_ret (v := .tuple #[.agg #[.slice none 0 0, .slice none 0 0], .int .i64 3]) (by simp [results, Try.results35, go_sem, g0, g1]) rfl ⟨none, none, 0, 0, rfl, WordIn.empty hb.size _ _, hb⟩

  obtain ⟨u1, u2, u3⟩ := fuse_good hq1.symm hq2.symm h3.out hlong
  have ht : p2.tail = pt := by rw [hp2.out]; rfl
  rw [u1, u2, u3, ht]
  have zl : decide ((10 : Int) < (r1.length : Int) + (r2.length : Int)) = false := decide_eq_false (by omega)
  clear u1 u2 u3 hq1 hq2 hlong n2 m2 ht hd h3
  rcases pt with _ | ⟨d2', pt⟩
  · obtain rfl : l2 = 1 := m3.out
    clear m3 HL
    have KC1 : Hid (∀ (W : World) (b : Nat), Sees w W → W.cell? ⟨b, 0, none⟩ = some (.slice (some ⟨y1, z1, none⟩) p1.length p1.length) → W.cell? ⟨b, 1, none⟩ = some (.slice (some ⟨y2, z2, none⟩) 0 0) → Calls Try.prog 72 #[.slice (some ⟨b, 0, none⟩) 2 2] W fun e w' => ∃ Z C, e = .returned (.slice Z (p1.length + 0) C) ∧ WordIn w' (p1 ++ []) [] W.heap.size w'.heap.size Z none ∧ Below W.heap.size W w') := fun W b h h1 h2 => by
      skip
      have := concat_two p1 [] (by have := N0.out; simp; omega) b (some ⟨y1, z1, none⟩) (some ⟨y2, z2, none⟩) p1.length 0 W (by simpa using h1) (by simpa using h2) (i1.sees h) (fun h => absurd rfl h)
      simpa using this
    have KC2 : Hid (∀ (W : World) (b : Nat), Sees w W → W.cell? ⟨b, 0, none⟩ = some (.slice B1 r1.length r1.length) → W.cell? ⟨b, 1, none⟩ = some (.slice B2 r2.length r2.length) → Calls Try.prog 72 #[.slice (some ⟨b, 0, none⟩) 2 2] W fun e w' => ∃ Z C, e = .returned (.slice Z (r1.length + r2.length) C) ∧ WordIn w' (r1 ++ r2) [] W.heap.size w'.heap.size Z none ∧ Below W.heap.size W w') := fun W b h h1 h2 => by
      have := concat_two r1 r2 (by have := N0.out; omega) b B1 B2 r1.length r2.length W h1 h2 (hr1.sees h) (hr2.sees h)
      simpa using this
    clear i1 hr1 hr2
    go_enter Try.func35, Try.ntmps35
    go_wp2_with fail
    rw [← hw0]
    refine (K1.out _ HS.out.st.1).mono ?_
    rintro e w1 ⟨rfl, hb⟩
    have S1 := Lib.hid (HS.out.below hb)
    clear hb
    clear hw0 HS
    obtain ⟨_, x1, x2, x3, x4, x5, x6, _⟩ := S1.out.st
    obtain ⟨rb0, rb1, zb0, zb1⟩ := S1.out.facts
    go_wp2_with fail
    clear x1 x2 x3 x4 x5 x6
    clear rb0 rb1 zb0 zb1
    refine (K2.out _ S1.out.st.1).mono ?_
    rintro e w2 ⟨rfl, hb⟩
    have S2 := Lib.hid (S1.out.below hb)
    clear hb
    clear S1
    obtain ⟨_, x1, x2, x3, x4, x5, x6, _⟩ := S2.out.st
    obtain ⟨rb0, rb1, zb0, zb1⟩ := S2.out.facts
    go_wp2_with fail
    have ce1 := kc S2.out.st.1 e1
    have ce2 := kc S2.out.st.1 e2
    go_region_held3 (fun w' => w'.cell? ⟨w.heap.size + 1, 0, none⟩ = some (.slice (some ⟨y1, z1, none⟩) p1.length p1.length) ∧ w'.cell? ⟨w.heap.size + 1, 1, none⟩ = some (.slice B1 r1.length r1.length) ∧ w'.cell? ⟨w.heap.size + 1 + 1, 0, none⟩ = some (.slice (some ⟨y2, z2, none⟩) 1 1) ∧ w'.cell? ⟨y1, z1 + r1.length, none⟩ = some (.int .i64 d) ∧ w'.cell? ⟨y2, z2, none⟩ = some (.int .i64 d)) (first | (go_keep; done) | exact ⟨x3, x4, x5, ce1, ce2⟩) (fail)
    go_wp2_with fail
    go_region_held3 (fun w' => Sees w w' ∧ w'.cell? ⟨w.heap.size, 0, none⟩ = some (.int .i64 t) ∧ w'.cell? ⟨w.heap.size, 1, none⟩ = some (.int .i64 a) ∧ w'.cell? ⟨w.heap.size + 1, 0, none⟩ = some (.slice (some ⟨y1, z1, none⟩) p1.length p1.length) ∧ w'.cell? ⟨w.heap.size + 1, 1, none⟩ = some (.slice B1 r1.length r1.length) ∧ w'.cell? ⟨w.heap.size + 1 + 1, 0, none⟩ = some (.slice (some ⟨y2, z2, none⟩) 1 1) ∧ w'.cell? ⟨w.heap.size + 1 + 1, 1, none⟩ = some (.slice B2 r2.length r2.length) ∧ True)
      (first | exact S2.out.drew.drew.st | exact U2.st | exact U1.st | exact (U1.al _).st | exact ((S2.out.al _).al _).drew.drew.st | exact (S2.out.al _).drew.drew.st | exact ((S2.out.drew.drew.al _).al _).st | exact (S2.out.drew.drew.al _).st | exact U2.set1 _ _ | (go_keep; done))
      (first
        | (go_at_call 72; refine (KC1.out _ _ ?_ ?_ ?_).mono ?_; exact St.sees (l := [(w.heap.size, 0, .int .i64 t), (w.heap.size, 1, .int .i64 a), (w.heap.size + 1, 0, .slice (some ⟨y1, z1, none⟩) p1.length p1.length), (w.heap.size + 1, 1, .slice B1 r1.length r1.length), (w.heap.size + 1 + 1, 0, .slice (some ⟨y2, z2, none⟩) 1 1), (w.heap.size + 1 + 1, 1, .slice B2 r2.length r2.length)]) (by assumption); (· simp [go_sem]); (· simp [go_sem]); rintro e wa ⟨Za, Ca, rfl, Ia, hba⟩; (first | have U1 := (S2.out.al _).drew.drew.result Ia hba | have U1 := ((S2.out.al _).al _).drew.drew.result Ia hba))
        | (go_at_call 72; refine (KC2.out _ _ ?_ ?_ ?_).mono ?_; exact St.sees (l := [(w.heap.size, 0, .int .i64 t), (w.heap.size, 1, .int .i64 a), (w.heap.size + 1, 0, .slice (some ⟨y1, z1, none⟩) p1.length p1.length), (w.heap.size + 1, 1, .slice B1 r1.length r1.length), (w.heap.size + 1 + 1, 0, .slice (some ⟨y2, z2, none⟩) 1 1), (w.heap.size + 1 + 1, 1, .slice B2 r2.length r2.length)]) (by assumption); (first | (· simp [go_sem]) | (· exact kc hba (by simp [go_sem]))); (first | (· simp [go_sem]) | (· exact kc hba (by simp [go_sem]))); rintro e wb ⟨Zb, Cb, rfl, Ib, hbb⟩; (first | have U2 := U1.result Ib hbb | have U2 := (U1.al _).result Ib hbb); obtain ⟨c0, c1, f0, f1⟩ := U2.facts))
    all_goals
      have HU := Lib.hid U2
      clear U1 U2 Ia Ib hba hbb S2
      go_wp2_with fail
      have G := HU.out.fill (.slice Za (p1.length + 0) Ca) (.slice Zb (r1.length + r2.length) Cb)
      generalize (wb.setCell ⟨w.heap.size + 1 + 1 + 1, 0, none⟩ (.slice Za (p1.length + 0) Ca)).setCell ⟨w.heap.size + 1 + 1 + 1, 1, none⟩ (.slice Zb (r1.length + r2.length) Cb) = j at G ⊢
      obtain ⟨hb, g0, g1, _⟩ := G.st
      refine bodyPost_ret (v := .tuple #[.agg #[.slice Za (p1.length + 0) Ca, .slice Zb (r1.length + r2.length) Cb], .int .i64 0]) (by simp [results, Try.results35, go_sem, g0, g1]) rfl ⟨Za, Zb, Ca, Cb, by simp, G.pair, hb⟩

  · obtain ⟨m, hm⟩ : ∃ m, m = pt.length := ⟨_, rfl⟩
    obtain rfl : l2 = m + 1 + 1 := by rw [hm]; exact m3.out
    have HMM := Lib.hid hm; clear hm
    have g0' : (1 : Int) ≤ (m : Int) + 1 + 1 := by omega
    have g1' : (0 : Int) < (m : Int) + 1 + 1 := by omega
    clear m3 HL
    have KC1 : Hid (∀ (W : World) (b : Nat), Sees w W → W.cell? ⟨b, 0, none⟩ = some (.slice (some ⟨y1, z1, none⟩) p1.length p1.length) → W.cell? ⟨b, 1, none⟩ = some (.slice (some ⟨y2, z2 + 1, none⟩) (m + 1) (m + 1)) → Calls Try.prog 72 #[.slice (some ⟨b, 0, none⟩) 2 2] W fun e w' => ∃ Z C, e = .returned (.slice Z (p1.length + (m + 1)) C) ∧ WordIn w' (p1 ++ (d2' :: pt)) [] W.heap.size w'.heap.size Z none ∧ Below W.heap.size W w') := fun W b h h1 h2 => by
      rw [HMM.out] at h2 ⊢
      have := concat_two p1 (d2' :: pt) (by have := N0.out; have := HMM.out; simp only [List.length_cons] at this ⊢; omega) b (some ⟨y1, z1, none⟩) (some ⟨y2, z2 + 1, none⟩) p1.length (pt.length + 1) W (by simpa using h1) (by simpa using h2) (i1.sees h) (i2.sees h)
      simpa using this
    have KC2 : Hid (∀ (W : World) (b : Nat), Sees w W → W.cell? ⟨b, 0, none⟩ = some (.slice B1 r1.length r1.length) → W.cell? ⟨b, 1, none⟩ = some (.slice B2 r2.length r2.length) → Calls Try.prog 72 #[.slice (some ⟨b, 0, none⟩) 2 2] W fun e w' => ∃ Z C, e = .returned (.slice Z (r1.length + r2.length) C) ∧ WordIn w' (r1 ++ r2) [] W.heap.size w'.heap.size Z none ∧ Below W.heap.size W w') := fun W b h h1 h2 => by
      have := concat_two r1 r2 (by have := N0.out; omega) b B1 B2 r1.length r2.length W h1 h2 (hr1.sees h) (hr2.sees h)
      simpa using this
    clear i1 i2 hr1 hr2
    go_enter Try.func35, Try.ntmps35
    go_wp2_with fail
    rw [← hw0]
    refine (K1.out _ HS.out.st.1).mono ?_
    rintro e w1 ⟨rfl, hb⟩
    have S1 := Lib.hid (HS.out.below hb)
    clear hb
    clear hw0 HS
    obtain ⟨_, x1, x2, x3, x4, x5, x6, _⟩ := S1.out.st
    obtain ⟨rb0, rb1, zb0, zb1⟩ := S1.out.facts
    go_wp2_with fail
    clear x1 x2 x3 x4 x5 x6
    clear rb0 rb1 zb0 zb1
    refine (K2.out _ S1.out.st.1).mono ?_
    rintro e w2 ⟨rfl, hb⟩
    have S2 := Lib.hid (S1.out.below hb)
    clear hb
    clear S1
    obtain ⟨_, x1, x2, x3, x4, x5, x6, _⟩ := S2.out.st
    obtain ⟨rb0, rb1, zb0, zb1⟩ := S2.out.facts
    go_wp2_with fail
    have ce1 := kc S2.out.st.1 e1
    have ce2 := kc S2.out.st.1 e2
    go_region_held3 (fun w' => w'.cell? ⟨w.heap.size + 1, 0, none⟩ = some (.slice (some ⟨y1, z1, none⟩) p1.length p1.length) ∧ w'.cell? ⟨w.heap.size + 1, 1, none⟩ = some (.slice B1 r1.length r1.length) ∧ w'.cell? ⟨w.heap.size + 1 + 1, 0, none⟩ = some (.slice (some ⟨y2, z2, none⟩) (m + 1 + 1) (m + 1 + 1)) ∧ w'.cell? ⟨y1, z1 + r1.length, none⟩ = some (.int .i64 d) ∧ w'.cell? ⟨y2, z2, none⟩ = some (.int .i64 d)) (first | (go_keep; done) | exact ⟨x3, x4, x5, ce1, ce2⟩) (fail)
    go_wp2_with fail
    go_region_held3 (fun w' => Sees w w' ∧ w'.cell? ⟨w.heap.size, 0, none⟩ = some (.int .i64 t) ∧ w'.cell? ⟨w.heap.size, 1, none⟩ = some (.int .i64 a) ∧ w'.cell? ⟨w.heap.size + 1, 0, none⟩ = some (.slice (some ⟨y1, z1, none⟩) p1.length p1.length) ∧ w'.cell? ⟨w.heap.size + 1, 1, none⟩ = some (.slice B1 r1.length r1.length) ∧ w'.cell? ⟨w.heap.size + 1 + 1, 0, none⟩ = some (.slice (some ⟨y2, z2, none⟩) (m + 1 + 1) (m + 1 + 1)) ∧ w'.cell? ⟨w.heap.size + 1 + 1, 1, none⟩ = some (.slice B2 r2.length r2.length) ∧ True)
      (first | exact S2.out.drew.drew.st | exact U2.st | exact U1.st | exact (U1.al _).st | exact ((S2.out.al _).al _).drew.drew.st | exact (S2.out.al _).drew.drew.st | exact ((S2.out.drew.drew.al _).al _).st | exact (S2.out.drew.drew.al _).st | exact U2.set1 _ _ | (go_keep; done))
      (first
        | (go_at_call 72; refine (KC1.out _ _ ?_ ?_ ?_).mono ?_; exact St.sees (l := [(w.heap.size, 0, .int .i64 t), (w.heap.size, 1, .int .i64 a), (w.heap.size + 1, 0, .slice (some ⟨y1, z1, none⟩) p1.length p1.length), (w.heap.size + 1, 1, .slice B1 r1.length r1.length), (w.heap.size + 1 + 1, 0, .slice (some ⟨y2, z2, none⟩) (m + 1 + 1) (m + 1 + 1)), (w.heap.size + 1 + 1, 1, .slice B2 r2.length r2.length)]) (by assumption); (· simp [go_sem]); (· simp [go_sem]); rintro e wa ⟨Za, Ca, rfl, Ia, hba⟩; (first | have U1 := (S2.out.al _).drew.drew.result Ia hba | have U1 := ((S2.out.al _).al _).drew.drew.result Ia hba))
        | (go_at_call 72; refine (KC2.out _ _ ?_ ?_ ?_).mono ?_; exact St.sees (l := [(w.heap.size, 0, .int .i64 t), (w.heap.size, 1, .int .i64 a), (w.heap.size + 1, 0, .slice (some ⟨y1, z1, none⟩) p1.length p1.length), (w.heap.size + 1, 1, .slice B1 r1.length r1.length), (w.heap.size + 1 + 1, 0, .slice (some ⟨y2, z2, none⟩) (m + 1 + 1) (m + 1 + 1)), (w.heap.size + 1 + 1, 1, .slice B2 r2.length r2.length)]) (by assumption); (first | (· simp [go_sem]) | (· exact kc hba (by simp [go_sem]))); (first | (· simp [go_sem]) | (· exact kc hba (by simp [go_sem]))); rintro e wb ⟨Zb, Cb, rfl, Ib, hbb⟩; (first | have U2 := U1.result Ib hbb | have U2 := (U1.al _).result Ib hbb); obtain ⟨c0, c1, f0, f1⟩ := U2.facts))
    all_goals
      have HU := Lib.hid U2
      clear U1 U2 Ia Ib hba hbb S2
      go_wp2_with fail
      have G := HU.out.fill (.slice Za (p1.length + (m + 1)) Ca) (.slice Zb (r1.length + r2.length) Cb)
      generalize (wb.setCell ⟨w.heap.size + 1 + 1 + 1, 0, none⟩ (.slice Za (p1.length + (m + 1)) Ca)).setCell ⟨w.heap.size + 1 + 1 + 1, 1, none⟩ (.slice Zb (r1.length + r2.length) Cb) = j at G ⊢
      obtain ⟨hb, g0, g1, _⟩ := G.st
      refine bodyPost_ret (v := .tuple #[.agg #[.slice Za (p1.length + (m + 1)) Ca, .slice Zb (r1.length + r2.length) Cb], .int .i64 0]) (by simp [results, Try.results35, go_sem, g0, g1]) rfl ⟨Za, Zb, Ca, Cb, by have := HMM.out; simp [this], G.pair, hb⟩

end Go.Proofs.Ytcpeiajniblipaa
