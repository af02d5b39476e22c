/- Programs that are handed to a law, opened. -/
import Derived.Test.YtojheipllpkgdaaDoorLaw
import Derived.Test.YtojheipllpkgdaaDoorPg
namespace Go.Proofs.YtojheipllpkgdaaDoor
open Go.RowKit Go.WideShapes Go.ChangeShapes Go.ChangeAt Go.Deep Go.WideElems

theorem array_six {α : Type} {cs : Array α} (h : cs.size = 6) : ∃ a b c d e f, cs = #[a, b, c, d, e, f] := by
  obtain ⟨l⟩ := cs
  match l, h with
  | [a, b, c, d, e, f], _ => exact ⟨a, b, c, d, e, f, rfl⟩
theorem Tryd.cellsPg : Tryd.prog.cellsOf 29 = 6 := by kernel_rfl

/-- A list of rows out of its rows, from the last one on. -/
theorem progs_of_rows {W : World} {b o len : Nat} {Z : Nat → Int × Int × Int × Int × Fo × Option Addr × Nat × Pg × Option Addr × Nat}
    (h : ∀ i, i < len → W.cell? ⟨b, o + i * 6, none⟩ = some (.int .i64 (Z i).1) ∧ W.cell? ⟨b, o + i * 6 + 1, none⟩ = some (.int .i64 (Z i).2.1) ∧ W.cell? ⟨b, o + i * 6 + 2, none⟩ = some (.int .i64 (Z i).2.2.1) ∧ W.cell? ⟨b, o + i * 6 + 3, none⟩ = some (.int .i64 (Z i).2.2.2.1) ∧
      (W.cell? ⟨b, o + i * 6 + 4, none⟩ = some (.slice (Z i).2.2.2.2.2.1 (Z i).2.2.2.2.1.len (Z i).2.2.2.2.2.2.1) ∧ (Z i).2.2.2.2.1.Lies W (Z i).2.2.2.2.2.1) ∧
      (W.cell? ⟨b, o + i * 6 + 5, none⟩ = some (.slice (Z i).2.2.2.2.2.2.2.2.1 (Z i).2.2.2.2.2.2.2.1.len (Z i).2.2.2.2.2.2.2.2.2) ∧ (Z i).2.2.2.2.2.2.2.1.Lies W (Z i).2.2.2.2.2.2.2.2.1) ∧
      ((Z i).2.2.2.2.1.len ≤ 9223372036854775807 ∧ (Z i).2.2.2.2.1.Fits) ∧ (Z i).2.2.2.2.2.2.2.1.len ≤ 9223372036854775807 ∧ (Z i).2.2.2.2.2.2.2.1.Fits) :
    ∀ j, j ≤ len → ∃ f : Pg, f.len = j ∧ f.At W b (o + (len - j) * 6) ∧ f.Fits := by
  intro j
  induction j with
  | zero => intro _; exact ⟨.nil, rfl, trivial, trivial⟩
  | succ j ih =>
    intro hj
    obtain ⟨f, h1, h2, h3⟩ := ih (by omega)
    obtain ⟨g0, g1, g2, g3, g4, g5, g6, g7, g8⟩ := h (len - (j + 1)) (by omega)
    refine ⟨.cons _ _ _ _ _ _ f, by simp [Pg.len, h1], ⟨g0, g1, g2, g3, ⟨_, _, g4.1, g4.2⟩, ⟨_, _, g5.1, g5.2⟩, ?_⟩, g6, g7, g8, h3⟩
    rw [show o + (len - (j + 1)) * 6 + 6 = o + (len - j) * 6 from by omega]
    exact h2

set_option maxRecDepth 100000 in
theorem lprogs_open {H : Type} {enc : TypeId × Value → H} {W : World} : ∀ (fuel : Nat) (cs : List Value) (x : DataW H × List MemPlace),
    DataW.trod enc Tryd.prog W 0 (fun _ => true) true fuel 27 cs = some x → ∃ (f : Pg) (A : Option Addr) (C : Nat), cs = [.slice A f.len C] ∧ f.Lies W A ∧ f.len ≤ 9223372036854775807 ∧ f.Fits := by
  intro fuel
  induction fuel using Nat.strongRecOn with
  | _ fuel ih =>
    intro cs x h
    rcases DataW.trod_slice Tryd.underlying27 h with ⟨rfl, _⟩ | ⟨a, len, cap, elems, rest, n, hn, rfl, rfl, hb, hl, hm, hlen, hel, hsp, hns⟩
    · exact ⟨.nil, none, 0, rfl, fun h => absurd rfl h, Nat.zero_le _, trivial⟩
    · have one : ∀ i, i < len → ∃ z : Int × Int × Int × Int × Fo × Option Addr × Nat × Pg × Option Addr × Nat, W.cell? (a.add (i * 6)) = some (.int .i64 z.1) ∧ W.cell? (a.add (i * 6 + 1)) = some (.int .i64 z.2.1) ∧ W.cell? (a.add (i * 6 + 2)) = some (.int .i64 z.2.2.1) ∧ W.cell? (a.add (i * 6 + 3)) = some (.int .i64 z.2.2.2.1) ∧
          (W.cell? (a.add (i * 6 + 4)) = some (.slice z.2.2.2.2.2.1 z.2.2.2.2.1.len z.2.2.2.2.2.2.1) ∧ z.2.2.2.2.1.Lies W z.2.2.2.2.2.1) ∧
          (W.cell? (a.add (i * 6 + 5)) = some (.slice z.2.2.2.2.2.2.2.2.1 z.2.2.2.2.2.2.2.1.len z.2.2.2.2.2.2.2.2.2) ∧ z.2.2.2.2.2.2.2.1.Lies W z.2.2.2.2.2.2.2.2.1) ∧
          (z.2.2.2.2.1.len ≤ 9223372036854775807 ∧ z.2.2.2.2.1.Fits) ∧ z.2.2.2.2.2.2.2.1.len ≤ 9223372036854775807 ∧ z.2.2.2.2.2.2.2.1.Fits := by
        intro i hi
        have key := hel i hi
        rw [List.getElem?_eq_getElem (by omega), Tryd.cellsPg] at key
        obtain ⟨cs', h1, h2⟩ := Option.bind_eq_some_iff.1 key
        obtain ⟨_, hl3, hc⟩ := World.cells?_some h1
        obtain ⟨xs, m, rfl, _, _, hxl, hf⟩ := DataW.trod_struct Tryd.underlying29 h2
        match xs, hxl, cs', hl3 with
        | [y0, y1, y2, y3], _, [v0, v1, v2, v3, v4, v5], _ =>
          have g0 : DataW.trod enc Tryd.prog W 0 (fun _ => true) true m 2 [v0] = some y0 := hf 0 _ rfl
          have g1 : DataW.trod enc Tryd.prog W 0 (fun _ => true) true m 2 [v1] = some y1 := hf 1 _ rfl
          have g2 : DataW.trod enc Tryd.prog W 0 (fun _ => true) true m 26 [v2, v3, v4] = some y2 := hf 2 _ rfl
          have g3 : DataW.trod enc Tryd.prog W 0 (fun _ => true) true m 27 [v5] = some y3 := hf 3 _ rfl
          obtain ⟨zs, m2, _, _, _, hzl, hz⟩ := DataW.trod_struct Tryd.underlying26 g2
          match zs, hzl with
          | [z0, z1, z2], _ =>
            have e0 : DataW.trod enc Tryd.prog W 0 (fun _ => true) true m2 2 [v2] = some z0 := hz 0 _ rfl
            have e1 : DataW.trod enc Tryd.prog W 0 (fun _ => true) true m2 2 [v3] = some z1 := hz 1 _ rfl
            have e2 : DataW.trod enc Tryd.prog W 0 (fun _ => true) true m2 24 [v4] = some z2 := hz 2 _ rfl
            obtain ⟨k, hk, _, _⟩ := DataW.trod_int Tryd.underlying2 g0
            obtain ⟨nn, hnn, _, _⟩ := DataW.trod_int Tryd.underlying2 g1
            obtain ⟨ck, hck, _, _⟩ := DataW.trod_int Tryd.underlying2 e0
            obtain ⟨cn, hcn, _, _⟩ := DataW.trod_int Tryd.underlying2 e1
            obtain ⟨cf, A, C, hcf, l1, l2, l3⟩ := lforest_open _ _ _ e2
            obtain ⟨f, B, D, hf2, p1, p2, p3⟩ := ih m (by omega) _ _ g3
            simp at hk hnn hck hcn hcf hf2
            subst hk; subst hnn; subst hck; subst hcn; subst hcf; subst hf2
            have c0 := hc 0 (by omega)
            have c1 := hc 1 (by omega)
            have c2 := hc 2 (by omega)
            have c3 := hc 3 (by omega)
            have c4 := hc 4 (by omega)
            have c5 := hc 5 (by omega)
            rw [add_add] at c0 c1 c2 c3 c4 c5
            exact ⟨(k, nn, ck, cn, cf, A, C, f, B, D), c0, c1, c2, c3, ⟨c4, l1⟩, ⟨c5, p1⟩, ⟨l2, l3⟩, p2, p3⟩
      obtain ⟨b, o, spot⟩ := a
      by_cases h0 : len = 0
      · subst h0
        exact ⟨.nil, _, _, rfl, fun h => absurd rfl h, Nat.zero_le _, trivial⟩
      have : Inhabited (Int × Int × Int × Int × Fo × Option Addr × Nat × Pg × Option Addr × Nat) := ⟨(0, 0, 0, 0, .nil, none, 0, .nil, none, 0)⟩
      obtain ⟨Z, hZ⟩ := choose_lt one
      have hspot : spot = none := by
        have := (hZ 0 (by omega)).1
        simpa [Addr.add] using World.cell?_spot this
      subst hspot
      obtain ⟨f, e1, e2, e3⟩ := progs_of_rows (W := W) (b := b) (o := o) (len := len) (Z := Z)
        (fun i hi => by
          obtain ⟨q0, q1, q2, q3, q4, q5, q6⟩ := hZ i hi
          rw [add_plain] at q0 q1 q2 q3 q4 q5
          exact ⟨q0, q1, q2, q3, q4, q5, q6⟩) len (Nat.le_refl _)
      rw [Nat.sub_self, Nat.zero_mul] at e2
      subst e1
      exact ⟨f, some ⟨b, o, none⟩, cap, rfl, fun _ => ⟨b, o, rfl, e2⟩, by unfold maxLen at hm; omega, e3⟩

set_option maxRecDepth 100000 in
/-- A program handed by value. -/
theorem lprog_open {H : Type} {enc : TypeId × Value → H} {W : World} {base : Nat} {v : Value} {d : DataW H} {p : List MemPlace} (hok : Value.okWide Tryd.prog W .any base 29 v) (h : DataW.Trod enc Tryd.prog W 0 (fun _ => true) true 29 v d p) :
    ∃ (k n ck cn : Int) (cf : Fo) (A : Option Addr) (C : Nat) (f : Pg) (B : Option Addr) (D : Nat), v = .agg #[.int .i64 k, .int .i64 n, .int .i64 ck, .int .i64 cn, .slice A cf.len C, .slice B f.len D] ∧ (cf.Lies W A ∧ cf.len ≤ 9223372036854775807 ∧ cf.Fits) ∧ f.Lies W B ∧ f.len ≤ 9223372036854775807 ∧ f.Fits ∧
      ((Lit.int .i64 k).wf = true ∧ (Lit.int .i64 n).wf = true ∧ (Lit.int .i64 ck).wf = true ∧ (Lit.int .i64 cn).wf = true) := by
  obtain ⟨cs, rfl, hsz⟩ := okWide_struct Tryd.underlying29 hok
  obtain ⟨v0, v1, v2, v3, v4, v5, rfl⟩ := array_six (hsz.trans Tryd.cellsPg)
  obtain ⟨fuel, hf0⟩ := h
  obtain ⟨xs, m, rfl, _, _, hxl, hf⟩ := DataW.trod_struct Tryd.underlying29 hf0
  match xs, hxl with
  | [y0, y1, y2, y3], _ =>
    have g0 : DataW.trod enc Tryd.prog W 0 (fun _ => true) true m 2 [v0] = some y0 := hf 0 _ rfl
    have g1 : DataW.trod enc Tryd.prog W 0 (fun _ => true) true m 2 [v1] = some y1 := hf 1 _ rfl
    have g2 : DataW.trod enc Tryd.prog W 0 (fun _ => true) true m 26 [v2, v3, v4] = some y2 := hf 2 _ rfl
    have g3 : DataW.trod enc Tryd.prog W 0 (fun _ => true) true m 27 [v5] = some y3 := hf 3 _ rfl
    obtain ⟨zs, m2, _, _, _, hzl, hz⟩ := DataW.trod_struct Tryd.underlying26 g2
    match zs, hzl with
    | [z0, z1, z2], _ =>
      have e0 : DataW.trod enc Tryd.prog W 0 (fun _ => true) true m2 2 [v2] = some z0 := hz 0 _ rfl
      have e1 : DataW.trod enc Tryd.prog W 0 (fun _ => true) true m2 2 [v3] = some z1 := hz 1 _ rfl
      have e2 : DataW.trod enc Tryd.prog W 0 (fun _ => true) true m2 24 [v4] = some z2 := hz 2 _ rfl
      obtain ⟨k, hk, _, wk⟩ := DataW.trod_int Tryd.underlying2 g0
      obtain ⟨nn, hnn, _, wn⟩ := DataW.trod_int Tryd.underlying2 g1
      obtain ⟨ck, hck, _, wck⟩ := DataW.trod_int Tryd.underlying2 e0
      obtain ⟨cn, hcn, _, wcn⟩ := DataW.trod_int Tryd.underlying2 e1
      obtain ⟨cf, A, C, hcf, l1, l2, l3⟩ := lforest_open _ _ _ e2
      obtain ⟨f, B, D, hf2, p1, p2, p3⟩ := lprogs_open _ _ _ g3
      simp at hk hnn hck hcn hcf hf2
      subst hk; subst hnn; subst hck; subst hcn; subst hcf; subst hf2
      exact ⟨k, nn, ck, cn, cf, A, C, f, B, D, rfl, ⟨l1, l2, l3⟩, p1, p2, p3, wk, wn, wck, wcn⟩
end Go.Proofs.YtojheipllpkgdaaDoor
