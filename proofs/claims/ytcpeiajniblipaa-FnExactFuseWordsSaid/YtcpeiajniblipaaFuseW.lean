/- Contract of spec.FuseWords. -/
import Derived.Test.YtcpeiajniblipaaFuseD
import Derived.Test.YtcpeiajniblipaaFuseS
namespace Go.Proofs.Ytcpeiajniblipaa
open Go.RowKit

set_option maxHeartbeats 4000000 in
set_option maxRecDepth 100000 in
theorem specFuseWords_any (t a : Int) (p1 r1 p2 r2 : List Int) (h0 : p1.length + r1.length + p2.length + r2.length ≤ 1048576) (A1 B1 A2 B2 : Option Addr) (w : World) (hl1 : Ints w p1 A1) (hr1 : Ints w r1 B1) (hl2 : Ints w p2 A2) (hr2 : Ints w r2 B2) :
    Calls Try.prog 34 #[.agg #[.int .i64 t, .int .i64 a], .agg #[.slice A1 p1.length p1.length, .slice B1 r1.length r1.length], .agg #[.slice A2 p2.length p2.length, .slice B2 r2.length r2.length]] w (WordEnd (fuseU t a p1 r1 p2 r2) (fuseV t a p1 r1 p2 r2) (fuseC t a p1 r1 p2 r2) w) := by
  obtain ⟨w0, hw0⟩ : ∃ w0, w0 = (((w.alloc (.cells #[.int .i64 t, .int .i64 a] 30)).alloc (.cells #[.slice A1 p1.length p1.length, .slice B1 r1.length r1.length] 47)).alloc (.cells #[.slice A2 p2.length p2.length, .slice B2 r2.length r2.length] 47)).alloc (.cells #[.slice none 0 0, .slice none 0 0] 47) := ⟨_, rfl⟩
  have B0 : Hid (Below w.heap.size w w0) := by show Below _ _ _; rw [hw0]; go_grown
  have HK : Hid (w0.heap[w.heap.size + 1 + 1 + 1]? = some (.cells #[.slice none 0 0, .slice none 0 0] 47 (0, 0))) := by show _ = _; rw [hw0]; exact heap_new _ _ _ (by simp)
  have HS : Hid (St w0 [(w.heap.size, 0, .int .i64 t), (w.heap.size, 1, .int .i64 a), (w.heap.size + 1, 0, .slice A1 p1.length p1.length), (w.heap.size + 1, 1, .slice B1 r1.length r1.length), (w.heap.size + 1 + 1, 0, .slice A2 p2.length p2.length), (w.heap.size + 1 + 1, 1, .slice B2 r2.length r2.length)] w0) := ⟨Below.refl _ _, by rw [hw0]; exact ⟨(by simp [go_sem]), (by simp [go_sem]), (by simp [go_sem]), (by simp [go_sem]), (by simp [go_sem]), (by simp [go_sem]), trivial⟩⟩
  have hl1 := hl1.sees B0.out; have hr1 := hr1.sees B0.out; have hl2 := hl2.sees B0.out; have hr2 := hr2.sees B0.out
  obtain ⟨q1, hq1⟩ : ∃ q1 : Bool, q1 = validW t a p1 r1 := ⟨_, rfl⟩
  obtain ⟨q2, hq2⟩ : ∃ q2 : Bool, q2 = validW t a p2 r2 := ⟨_, rfl⟩
  have K1 : Hid (∀ W : World, St w0 [(w.heap.size, 0, .int .i64 t), (w.heap.size, 1, .int .i64 a), (w.heap.size + 1, 0, .slice A1 p1.length p1.length), (w.heap.size + 1, 1, .slice B1 r1.length r1.length), (w.heap.size + 1 + 1, 0, .slice A2 p2.length p2.length), (w.heap.size + 1 + 1, 1, .slice B2 r2.length r2.length)] W → Calls Try.prog 63 #[.agg #[.int .i64 t, .int .i64 a], .pointer (some ⟨w.heap.size + 1, 0, none⟩)] W fun e w' => e = .returned (.bool q1) ∧ Below W.heap.size W w') := fun W h => by
    rw [hq1]
    exact l01Word_any p1 r1 (by omega) t a A1 B1 p1.length r1.length (w.heap.size + 1) 0 W (hl1.sees h.1) (hr1.sees h.1) h.2.2.2.1 h.2.2.2.2.1
  have K2 : Hid (∀ W : World, St w0 [(w.heap.size, 0, .int .i64 t), (w.heap.size, 1, .int .i64 a), (w.heap.size + 1, 0, .slice A1 p1.length p1.length), (w.heap.size + 1, 1, .slice B1 r1.length r1.length), (w.heap.size + 1 + 1, 0, .slice A2 p2.length p2.length), (w.heap.size + 1 + 1, 1, .slice B2 r2.length r2.length)] W → Calls Try.prog 63 #[.agg #[.int .i64 t, .int .i64 a], .pointer (some ⟨w.heap.size + 1 + 1, 0, none⟩)] W fun e w' => e = .returned (.bool q2) ∧ Below W.heap.size W w') := fun W h => by
    rw [hq2]
    exact l01Word_any p2 r2 (by omega) t a A2 B2 p2.length r2.length (w.heap.size + 1 + 1) 0 W (hl2.sees h.1) (hr2.sees h.1) h.2.2.2.2.2.1 h.2.2.2.2.2.2.1
  have N0 : Hid (p1.length + r1.length + p2.length + r2.length ≤ 1048576) := h0
  clear h0
  have go1 : ∀ (w3 : World), St w0 [(w.heap.size, 0, .int .i64 t), (w.heap.size, 1, .int .i64 a), (w.heap.size + 1, 0, .slice A1 p1.length p1.length), (w.heap.size + 1, 1, .slice B1 r1.length r1.length), (w.heap.size + 1 + 1, 0, .slice A2 p2.length p2.length), (w.heap.size + 1 + 1, 1, .slice B2 r2.length r2.length)] w3 → ∀ e : Prop, e → e := fun _ _ _ h => h
  clear go1
  cases q1
  · obtain ⟨e1, e2, e3⟩ := fuse_bad (p2 := p2) (r2 := r2) (by rw [← hq1]; rfl)
    rw [e1, e2, e3]
    clear e1 e2 e3 hq1 hq2 hl1 hr1 hl2 hr2
    go_enter Try.func34, Try.ntmps34
    go_wp2_with fail
    rw [← hw0]
    refine (K1.out _ HS.out).mono ?_
    rintro e w3 ⟨rfl, hb⟩
    have S3 : Hid (St w0 [(w.heap.size, 0, .int .i64 t), (w.heap.size, 1, .int .i64 a), (w.heap.size + 1, 0, .slice A1 p1.length p1.length), (w.heap.size + 1, 1, .slice B1 r1.length r1.length), (w.heap.size + 1 + 1, 0, .slice A2 p2.length p2.length), (w.heap.size + 1 + 1, 1, .slice B2 r2.length r2.length)] w3) := HS.out.below hb
    clear hb hw0
    obtain ⟨_, x1, x2, x3, x4, x5, x6, _⟩ := S3.out
    obtain ⟨rb0, rb1, zb0, zb1⟩ := box_seen (b := w.heap.size + 1 + 1 + 1) S3.out.1 HK.out
    go_wp2_with fail
    obtain ⟨hk, hb⟩ := box_write (b := w.heap.size + 1 + 1 + 1) S3.out.1 HK.out (by omega) B0.out (.slice none 0 0) (.slice none 0 0)
    generalize ((w3).setCell ⟨w.heap.size + 1 + 1 + 1, 0, none⟩ (.slice none 0 0)).setCell ⟨w.heap.size + 1 + 1 + 1, 1, none⟩ (.slice none 0 0) = j at hk hb ⊢
    obtain ⟨g0, g1, _, _⟩ := box_facts hk
    refine bodyPost_ret (v := .tuple #[.agg #[.slice none 0 0, .slice none 0 0], .int .i64 1]) (by simp [results, Try.results34, go_sem, g0, g1]) rfl ⟨none, none, 0, 0, rfl, WordIn.empty hb.size _ _, hb⟩

  cases q2
  · obtain ⟨e1, e2, e3⟩ := fuse_bad (p1 := p1) (r1 := r1) (p2 := p2) (r2 := r2) (by rw [← hq1, ← hq2]; rfl)
    rw [e1, e2, e3]
    clear e1 e2 e3 hq1 hq2 hl1 hr1 hl2 hr2
    go_enter Try.func34, Try.ntmps34
    go_wp2_with fail
    rw [← hw0]
    refine (K1.out _ HS.out).mono ?_
    rintro e w2 ⟨rfl, hb⟩
    have S2 : Hid (St w0 [(w.heap.size, 0, .int .i64 t), (w.heap.size, 1, .int .i64 a), (w.heap.size + 1, 0, .slice A1 p1.length p1.length), (w.heap.size + 1, 1, .slice B1 r1.length r1.length), (w.heap.size + 1 + 1, 0, .slice A2 p2.length p2.length), (w.heap.size + 1 + 1, 1, .slice B2 r2.length r2.length)] w2) := HS.out.below hb
    clear hb hw0
    obtain ⟨_, x1, x2, x3, x4, x5, x6, _⟩ := S2.out
    go_wp2_with fail
    clear x1 x2 x3 x4 x5 x6
    refine (K2.out _ S2.out).mono ?_
    rintro e w3 ⟨rfl, hb⟩
    have S3 : Hid (St w0 [(w.heap.size, 0, .int .i64 t), (w.heap.size, 1, .int .i64 a), (w.heap.size + 1, 0, .slice A1 p1.length p1.length), (w.heap.size + 1, 1, .slice B1 r1.length r1.length), (w.heap.size + 1 + 1, 0, .slice A2 p2.length p2.length), (w.heap.size + 1 + 1, 1, .slice B2 r2.length r2.length)] w3) := S2.out.below hb
    clear hb S2
    obtain ⟨_, x1, x2, x3, x4, x5, x6, _⟩ := S3.out
    obtain ⟨rb0, rb1, zb0, zb1⟩ := box_seen (b := w.heap.size + 1 + 1 + 1) S3.out.1 HK.out
    go_wp2_with fail
    obtain ⟨hk, hb⟩ := box_write (b := w.heap.size + 1 + 1 + 1) S3.out.1 HK.out (by omega) B0.out (.slice none 0 0) (.slice none 0 0)
    generalize ((w3).setCell ⟨w.heap.size + 1 + 1 + 1, 0, none⟩ (.slice none 0 0)).setCell ⟨w.heap.size + 1 + 1 + 1, 1, none⟩ (.slice none 0 0) = j at hk hb ⊢
    obtain ⟨g0, g1, _, _⟩ := box_facts hk
    refine bodyPost_ret (v := .tuple #[.agg #[.slice none 0 0, .slice none 0 0], .int .i64 1]) (by simp [results, Try.results34, go_sem, g0, g1]) rfl ⟨none, none, 0, 0, rfl, WordIn.empty hb.size _ _, hb⟩

  obtain ⟨n1, n2⟩ := validW_len hq1.symm
  obtain ⟨m1, m2⟩ := validW_len hq2.symm
  obtain ⟨c, pt, hp2⟩ : ∃ c pt, Hid (p2 = c :: pt) := by
    cases p2 with
    | nil => simp at m1
    | cons c pt => exact ⟨c, pt, rfl⟩
  have m3 : Hid (p2.length = pt.length + 1) := by show _ = _; rw [hp2.out]; rfl
  have hd : Hid (nth p2 0 = c) := by show _ = _; rw [hp2.out]; rfl
  obtain ⟨y2, z2, rfl, e2, i2⟩ := Ints.first (c := c) (pt := pt) (by rw [← hp2.out]; exact hl2)
  obtain ⟨y1, z1, rfl, hc1⟩ := hl1 (by intro h; rw [h] at n1; simp at n1)
  have e1 := hc1 r1.length (by omega)
  have i1 := hl1; clear hl1 hl2
  have N1 := Lib.hid n1
  have N2 := Lib.hid (And.intro n2 m2)
  clear n1 n2 m1 m2
  by_cases heq : nth p1 r1.length = c
  case neg =>
    obtain ⟨u1, u2, u3⟩ := fuse_apart hq1.symm hq2.symm (by rw [hd.out]; exact heq)
    rw [u1, u2, u3]
    have K3 : Hid (∀ W : World, St w0 [(w.heap.size, 0, .int .i64 t), (w.heap.size, 1, .int .i64 a), (w.heap.size + 1, 0, .slice (some ⟨y1, z1, none⟩) p1.length p1.length), (w.heap.size + 1, 1, .slice B1 r1.length r1.length), (w.heap.size + 1 + 1, 0, .slice (some ⟨y2, z2, none⟩) p2.length p2.length), (w.heap.size + 1 + 1, 1, .slice B2 r2.length r2.length)] W → Calls Try.prog 71 #[.pointer (some ⟨w.heap.size + 1, 0, none⟩), .pointer (some ⟨w.heap.size + 1 + 1, 0, none⟩)] W fun e w' => e = .returned (.tuple #[.agg #[.slice none 0 0, .slice none 0 0], .bool false]) ∧ Below W.heap.size W w') := fun W h =>
      l01Fuse_no r1.length pt.length c (nth p1 r1.length) heq (by have := N0.out; omega) _ _ y1 z1 y2 z2 p1.length p2.length W (by rw [← N1.out]; exact h.2.2.2.1) (by rw [← m3.out]; exact h.2.2.2.2.2.1) (kc h.1 e1) (kc h.1 e2)
    clear u1 u2 u3 hq1 hq2 hr1 hr2 i1 i2 e1 e2 hc1 heq
    go_enter Try.func34, Try.ntmps34
    go_wp2_with fail
    rw [← hw0]
    refine (K1.out _ HS.out).mono ?_
    rintro e w1 ⟨rfl, hb⟩
    have S1 := Lib.hid (HS.out.below hb)
    clear hb hw0
    obtain ⟨_, x1, x2, x3, x4, x5, x6, _⟩ := S1.out
    go_wp2_with fail
    clear x1 x2 x3 x4 x5 x6
    refine (K2.out _ S1.out).mono ?_
    rintro e w2 ⟨rfl, hb⟩
    have S2 := Lib.hid (S1.out.below hb)
    clear hb S1
    obtain ⟨_, x1, x2, x3, x4, x5, x6, _⟩ := S2.out
    go_wp2_with fail
    clear x1 x2 x3 x4 x5 x6
    refine (K3.out _ S2.out).mono ?_
    rintro e w3 ⟨rfl, hb⟩
    have S3' := Lib.hid (S2.out.below hb)
    clear hb S2
    have S3 := Lib.hid (S3'.out.alloc (.cells #[.slice none 0 0, .slice none 0 0] 47))
    obtain ⟨rb0, rb1, zb0, zb1⟩ := box_seen (b := w.heap.size + 1 + 1 + 1) S3.out.1 HK.out
    go_wp2_with fail
    obtain ⟨hk, hb⟩ := box_write (b := w.heap.size + 1 + 1 + 1) S3.out.1 HK.out (by omega) B0.out (.slice none 0 0) (.slice none 0 0)
    generalize ((w3.alloc (.cells #[.slice none 0 0, .slice none 0 0] 47)).setCell ⟨w.heap.size + 1 + 1 + 1, 0, none⟩ (.slice none 0 0)).setCell ⟨w.heap.size + 1 + 1 + 1, 1, none⟩ (.slice none 0 0) = j at hk hb ⊢
    obtain ⟨g0, g1, _, _⟩ := box_facts hk
    refine bodyPost_ret (v := .tuple #[.agg #[.slice none 0 0, .slice none 0 0], .int .i64 4]) (by simp [results, Try.results34, go_sem, g0, g1]) rfl ⟨none, none, 0, 0, rfl, WordIn.empty hb.size _ _, hb⟩

  subst heq
  have h3 : Hid (nth p1 r1.length = nth p2 0) := hd.out.symm
  have K3 : Hid (∀ W : World, St w0 [(w.heap.size, 0, .int .i64 t), (w.heap.size, 1, .int .i64 a), (w.heap.size + 1, 0, .slice (some ⟨y1, z1, none⟩) p1.length p1.length), (w.heap.size + 1, 1, .slice B1 r1.length r1.length), (w.heap.size + 1 + 1, 0, .slice (some ⟨y2, z2, none⟩) p2.length p2.length), (w.heap.size + 1 + 1, 1, .slice B2 r2.length r2.length)] W → Calls Try.prog 71 #[.pointer (some ⟨w.heap.size + 1, 0, none⟩), .pointer (some ⟨w.heap.size + 1 + 1, 0, none⟩)] W fun e w' => ∃ Z Y C D, e = .returned (.tuple #[.agg #[.slice Z (p1.length + pt.length) C, .slice Y (r1.length + r2.length) D], .bool true]) ∧ WordIn w' (p1 ++ pt) (r1 ++ r2) W.heap.size w'.heap.size Z Y ∧ Below W.heap.size W w') := fun W h => by
    have c10 := h.2.2.2.1
    have c11 := h.2.2.2.2.1
    have c20 := h.2.2.2.2.2.1
    have c21 := h.2.2.2.2.2.2.1
    have n1 := N1.out
    have m3' := m3.out
    have n0 := N0.out
    rw [n1] at c10
    rw [m3'] at c20
    rcases pt with _ | ⟨d, pt⟩
    · exact l01Fuse_nil p1 r1 [] r2 r1.length (nth p1 r1.length) n1 rfl (by simp; omega) _ _ y1 z1 y2 z2 B1 B2 (r1.length + 1) r1.length r2.length W c10 c11 c20 c21 (kc h.1 e1) (kc h.1 e2) (i1.sees h.1) (hr1.sees h.1) (hr2.sees h.1)
    · exact l01Fuse_cons p1 r1 (d :: pt) r2 r1.length pt.length (nth p1 r1.length) n1 rfl (by omega) _ _ y1 z1 y2 z2 B1 B2 (r1.length + 1) r1.length r2.length W c10 c11 c20 c21 (kc h.1 e1) (kc h.1 e2) (i1.sees h.1) (hr1.sees h.1) (i2.sees h.1) (hr2.sees h.1)
  have HT : Hid (p2.tail = pt) := by show _ = _; rw [hp2.out]; rfl
  clear hc1 hr1 hr2 i1 i2 e1 e2 hd
  by_cases hlong : r1.length + r2.length ≤ 10
  case neg =>
    obtain ⟨u1, u2, u3⟩ := fuse_long hq1.symm hq2.symm h3.out hlong
    rw [u1, u2, u3]
    have zl : decide ((10 : Int) < (r1.length : Int) + (r2.length : Int)) = true := decide_eq_true (by omega)
    clear u1 u2 u3 hq1 hq2 hlong
    go_enter Try.func34, Try.ntmps34
    go_wp2_with fail
    rw [← hw0]
    refine (K1.out _ HS.out).mono ?_
    rintro e w1 ⟨rfl, hb⟩
    have S1 := Lib.hid (HS.out.below hb)
    clear hb hw0
    obtain ⟨_, x1, x2, x3, x4, x5, x6, _⟩ := S1.out
    go_wp2_with fail
    clear x1 x2 x3 x4 x5 x6
    refine (K2.out _ S1.out).mono ?_
    rintro e w2 ⟨rfl, hb⟩
    have S2 := Lib.hid (S1.out.below hb)
    clear hb S1
    obtain ⟨_, x1, x2, x3, x4, x5, x6, _⟩ := S2.out
    go_wp2_with fail
    clear x1 x2 x3 x4 x5 x6
    refine (K3.out _ S2.out).mono ?_
    rintro e w3 ⟨Z, Y, C, D, rfl, hw, hb⟩
    have S3' := Lib.hid (S2.out.below hb)
    clear hb S2 hw
    have S3 := Lib.hid (S3'.out.alloc (.cells #[.slice Z (p1.length + pt.length) C, .slice Y (r1.length + r2.length) D] 47))
    obtain ⟨rb0, rb1, zb0, zb1⟩ := box_seen (b := w.heap.size + 1 + 1 + 1) S3.out.1 HK.out
    go_wp2_with fail
    obtain ⟨hk, hb⟩ := box_write (b := w.heap.size + 1 + 1 + 1) S3.out.1 HK.out (by omega) B0.out (.slice none 0 0) (.slice none 0 0)
    generalize ((w3.alloc (.cells #[.slice Z (p1.length + pt.length) C, .slice Y (r1.length + r2.length) D] 47)).setCell ⟨w.heap.size + 1 + 1 + 1, 0, none⟩ (.slice none 0 0)).setCell ⟨w.heap.size + 1 + 1 + 1, 1, none⟩ (.slice none 0 0) = j at hk hb ⊢
    obtain ⟨g0, g1, _, _⟩ := box_facts hk
    refine bodyPost_ret (v := .tuple #[.agg #[.slice none 0 0, .slice none 0 0], .int .i64 3]) (by simp [results, Try.results34, go_sem, g0, g1]) rfl ⟨none, none, 0, 0, rfl, WordIn.empty hb.size _ _, hb⟩

  case pos =>
    obtain ⟨u1, u2, u3⟩ := fuse_good hq1.symm hq2.symm h3.out hlong
    rw [u1, u2, u3, HT.out]
    have zl : decide ((10 : Int) < (r1.length : Int) + (r2.length : Int)) = false := decide_eq_false (by omega)
    clear u1 u2 u3 hq1 hq2 hlong
    have hlt := (Array.getElem?_eq_some_iff.1 HK.out).1
    have HLT := Lib.hid hlt; clear hlt
    go_enter Try.func34, Try.ntmps34
    go_wp2_with fail
    rw [← hw0]
    refine (K1.out _ HS.out).mono ?_
    rintro e w1 ⟨rfl, hb⟩
    have S1 := Lib.hid (HS.out.below hb)
    clear hb hw0
    obtain ⟨_, x1, x2, x3, x4, x5, x6, _⟩ := S1.out
    go_wp2_with fail
    clear x1 x2 x3 x4 x5 x6
    refine (K2.out _ S1.out).mono ?_
    rintro e w2 ⟨rfl, hb⟩
    have S2 := Lib.hid (S1.out.below hb)
    clear hb S1
    obtain ⟨_, x1, x2, x3, x4, x5, x6, _⟩ := S2.out
    go_wp2_with fail
    clear x1 x2 x3 x4 x5 x6
    refine (K3.out _ S2.out).mono ?_
    rintro e w3 ⟨Z, Y, C, D, rfl, hw, hb⟩
    have S3' := Lib.hid (S2.out.below hb)
    have HW := Lib.hid hw
    have HW2 := Lib.hid (show w0.heap.size ≤ w2.heap.size from S2.out.1.size)
    clear hb S2 hw
    have S3 := Lib.hid (S3'.out.alloc (.cells #[.slice Z (p1.length + pt.length) C, .slice Y (r1.length + r2.length) D] 47))
    obtain ⟨rb0, rb1, zb0, zb1⟩ := box_seen (b := w.heap.size + 1 + 1 + 1) S3.out.1 HK.out
    go_wp2_with fail
    obtain ⟨hk, hb⟩ := box_write (b := w.heap.size + 1 + 1 + 1) S3.out.1 HK.out (by omega) B0.out (.slice Z (p1.length + pt.length) C) (.slice Y (r1.length + r2.length) D)
    have hwd := word_out (l0 := w.heap.size) (b := w.heap.size + 1 + 1 + 1) HW.out (by have := HW2.out; have := B0.out.size; omega) (by have := HW2.out; have := HLT.out; omega) (.cells #[.slice Z (p1.length + pt.length) C, .slice Y (r1.length + r2.length) D] 47) (.slice Z (p1.length + pt.length) C) (.slice Y (r1.length + r2.length) D)
    generalize ((w3.alloc (.cells #[.slice Z (p1.length + pt.length) C, .slice Y (r1.length + r2.length) D] 47)).setCell ⟨w.heap.size + 1 + 1 + 1, 0, none⟩ (.slice Z (p1.length + pt.length) C)).setCell ⟨w.heap.size + 1 + 1 + 1, 1, none⟩ (.slice Y (r1.length + r2.length) D) = j at hk hb hwd ⊢
    obtain ⟨g0, g1, _, _⟩ := box_facts hk
    refine bodyPost_ret (v := .tuple #[.agg #[.slice Z (p1.length + pt.length) C, .slice Y (r1.length + r2.length) D], .int .i64 0]) (by simp [results, Try.results34, go_sem, g0, g1]) rfl ⟨Z, Y, C, D, by simp, hwd, hb⟩
end Go.Proofs.Ytcpeiajniblipaa
