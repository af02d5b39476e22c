/- Premises that are handed to a law, opened. -/
import Derived.Test.YtpoikhilhgijoaaLaw
import Derived.Test.YtpoikhilhgijoaaPr
namespace Go.Proofs.Ytpoikhilhgijoaa
open Go.RowKit Go.WideShapes Go.ChangeShapes Go.ChangeAt Go.Deep Go.WideElems

theorem Try.cellsPm : Try.prog.cellsOf 83 = 7 := by kernel_rfl
instance : Inhabited Pm := ⟨⟨0, 0, .nil, 0, 0, 0, .nil⟩⟩
set_option maxRecDepth 100000 in
theorem lpremises_open {H : Type} {enc : TypeId × Value → H} {W : World} {fuel : Nat} {cs : List Value} {x : DataW H × List MemPlace}
    (h : DataW.trod enc Try.prog W 0 (fun _ => true) true fuel 38 cs = some x) : ∃ (xs : List Pm) (A : Option Addr) (C : Nat), cs = [.slice A xs.length C] ∧ PmL W xs A ∧ FitPm xs := by
  rcases DataW.trod_slice Try.underlying38 h with ⟨rfl, _⟩ | ⟨a, len, cap, elems, rest, n, hn, rfl, rfl, hb, hl, hm, hlen, hel, hsp, hns⟩
  · exact ⟨[], none, 0, rfl, fun h => absurd rfl h, Nat.zero_le _, fun x hx => absurd hx (by simp)⟩
  · have one : ∀ i, i < len → ∃ z : Pm × Option Addr × Nat × Option Addr × Nat, (W.cell? (a.add (i * 7)) = some (.int .i64 z.1.pk) ∧ W.cell? (a.add (i * 7 + 1)) = some (.int .i64 z.1.pn) ∧ W.cell? (a.add (i * 7 + 2)) = some (.slice z.2.1 z.1.pf.len z.2.2.1) ∧ W.cell? (a.add (i * 7 + 3)) = some (.int .i64 z.1.act) ∧ W.cell? (a.add (i * 7 + 4)) = some (.int .i64 z.1.qk) ∧ W.cell? (a.add (i * 7 + 5)) = some (.int .i64 z.1.qn) ∧ W.cell? (a.add (i * 7 + 6)) = some (.slice z.2.2.2.1 z.1.qf.len z.2.2.2.2)) ∧ (z.1.pf.Lies W z.2.1 ∧ z.1.qf.Lies W z.2.2.2.1) ∧ (z.1.pf.len ≤ 9223372036854775807 ∧ z.1.pf.Fits) ∧ (z.1.qf.len ≤ 9223372036854775807 ∧ z.1.qf.Fits) := by
      intro i hi
      have key := hel i hi
      rw [List.getElem?_eq_getElem (by omega), Try.cellsPm] at key
      obtain ⟨cs', h1, h2⟩ := Option.bind_eq_some_iff.1 key
      obtain ⟨_, hl3, hc⟩ := World.cells?_some h1
      obtain ⟨xs, m, rfl, _, _, hxl, hf⟩ := DataW.trod_struct Try.underlying83 h2
      match xs, hxl, cs', hl3 with
      | [y0, y1, y2], _, [v0, v1, v2, v3, v4, v5, v6], _ =>
        have g0 : DataW.trod enc Try.prog W 0 (fun _ => true) true m 26 [v0, v1, v2] = some y0 := hf 0 _ rfl
        have g1 : DataW.trod enc Try.prog W 0 (fun _ => true) true m 2 [v3] = some y1 := hf 1 _ rfl
        have g2 : DataW.trod enc Try.prog W 0 (fun _ => true) true m 26 [v4, v5, v6] = some y2 := hf 2 _ rfl
        obtain ⟨zs, m2, _, _, _, hzl, hz⟩ := DataW.trod_struct Try.underlying26 g0
        obtain ⟨us, m3, _, _, _, hul, hu⟩ := DataW.trod_struct Try.underlying26 g2
        match zs, hzl, us, hul with
        | [z0, z1, z2], _, [u0, u1, u2], _ =>
          have e0 : DataW.trod enc Try.prog W 0 (fun _ => true) true m2 2 [v0] = some z0 := hz 0 _ rfl
          have e1 : DataW.trod enc Try.prog W 0 (fun _ => true) true m2 2 [v1] = some z1 := hz 1 _ rfl
          have e2 : DataW.trod enc Try.prog W 0 (fun _ => true) true m2 24 [v2] = some z2 := hz 2 _ rfl
          have e4 : DataW.trod enc Try.prog W 0 (fun _ => true) true m3 2 [v4] = some u0 := hu 0 _ rfl
          have e5 : DataW.trod enc Try.prog W 0 (fun _ => true) true m3 2 [v5] = some u1 := hu 1 _ rfl
          have e6 : DataW.trod enc Try.prog W 0 (fun _ => true) true m3 24 [v6] = some u2 := hu 2 _ rfl
          obtain ⟨pk, hpk, _, _⟩ := DataW.trod_int Try.underlying2 e0
          obtain ⟨pn, hpn, _, _⟩ := DataW.trod_int Try.underlying2 e1
          obtain ⟨act, hact, _, _⟩ := DataW.trod_int Try.underlying2 g1
          obtain ⟨qk, hqk, _, _⟩ := DataW.trod_int Try.underlying2 e4
          obtain ⟨qn, hqn, _, _⟩ := DataW.trod_int Try.underlying2 e5
          obtain ⟨pf, A, C, hpf, l1, l2, l3⟩ := lforest_open _ _ _ e2
          obtain ⟨qf, B, D, hqf, r1, r2, r3⟩ := lforest_open _ _ _ e6
          simp at hpk hpn hact hqk hqn hpf hqf
          subst hpk; subst hpn; subst hact; subst hqk; subst hqn; subst hpf; subst hqf
          have c0 := hc 0 (by omega)
          have c1 := hc 1 (by omega)
          have c2 := hc 2 (by omega)
          have c3 := hc 3 (by omega)
          have c4 := hc 4 (by omega)
          have c5 := hc 5 (by omega)
          have c6 := hc 6 (by omega)
          rw [add_add] at c0 c1 c2 c3 c4 c5 c6
          exact ⟨(⟨pk, pn, pf, act, qk, qn, qf⟩, A, C, B, D), ⟨c0, c1, c2, c3, c4, c5, c6⟩, ⟨l1, r1⟩, ⟨l2, l3⟩, ⟨r2, r3⟩⟩
    have : Inhabited (Option Addr × Nat × Option Addr × Nat) := ⟨(none, 0, none, 0)⟩
    obtain ⟨Z, hZ⟩ := choose_lt one
    refine ⟨(List.range len).map fun i => (Z i).1, some a, cap, by simp, ?_, by simp; unfold maxLen at hm; omega, ?_⟩
    · intro hne
      have hpos : 0 < len := by
        rcases Nat.eq_zero_or_pos len with h0 | h0
        · subst h0; simp at hne
        · exact h0
      obtain ⟨b, o, spot⟩ := a
      have hspot : spot = none := by
        have := (hZ 0 hpos).1.1
        simpa [Addr.add] using World.cell?_spot this
      subst hspot
      refine ⟨b, o, rfl, fun i x hi => ?_⟩
      obtain ⟨hil, he⟩ := List.getElem?_eq_some_iff.1 hi
      have hi' : i < len := by simpa using hil
      have hz : (Z i).1 = x := by rw [← he]; simp
      obtain ⟨⟨q0, q1, q2, q3, q4, q5, q6⟩, ⟨q7, q8⟩, _, _⟩ := hZ i hi'
      rw [add_plain] at q0 q1 q2 q3 q4 q5 q6
      rw [← hz]
      exact ⟨(Z i).2.1, (Z i).2.2.1, (Z i).2.2.2.1, (Z i).2.2.2.2, ⟨q0, q1, q2, q3, q4, q5, q6⟩, q7, q8⟩
    · intro x hx
      obtain ⟨i, hi, rfl⟩ := List.mem_map.1 hx
      exact (hZ i (by simpa using hi)).2.2

set_option maxRecDepth 100000 in
theorem lprems_open {H : Type} {enc : TypeId × Value → H} {W : World} {base : Nat} {v : Value} {d : DataW H} {p : List MemPlace} (hok : Value.okWide Try.prog W .any base 38 v) (h : DataW.Trod enc Try.prog W 0 (fun _ => true) true 38 v d p) :
    ∃ (xs : List Pm) (A : Option Addr) (C : Nat), v = .slice A xs.length C ∧ PmL W xs A ∧ FitPm xs := by
  obtain ⟨a, len, cap, rfl⟩ := okWide_slice Try.underlying38 hok
  obtain ⟨fuel, hf⟩ := h
  obtain ⟨xs, A, C, hx, l1, l2⟩ := lpremises_open hf
  simp [Value.cells] at hx
  obtain ⟨rfl, rfl, rfl⟩ := hx
  exact ⟨xs, _, _, rfl, l1, l2⟩
end Go.Proofs.Ytpoikhilhgijoaa
