/- Contract of impl.runner.act. -/
import Derived.Test.YtlfafcbieeambaaDoorRnn
import Derived.Test.YtlfafcbieeambaaDoorFolD
import Derived.Deep.RegionLaw
import Derived.Deep.DeepCutAuto
import Derived.Deep.QuietTactic
import Derived.BigQuiet
namespace Go.Proofs.YtlfafcbieeambaaDoor
open Go.RowKit

theorem one_int {W : World} {y : Int} : Ints (W.alloc (.cells #[.int .i64 y] 2)) [y] (some ⟨W.heap.size, 0, none⟩) := fun _ => ⟨W.heap.size, 0, rfl, fun l hl => by
  have : l = 0 := by simp at hl; omega
  subst this
  simp [go_sem, nth]⟩

set_option maxHeartbeats 4000000 in
set_option maxRecDepth 100000 in
theorem act_any {w W : World} {b : Nat} {A : Option Addr} {C : Nat} {B : Option Addr} {D : Nat} {f k : Int} {v1 v2 : Value} {tr ac : List Int} {p : List Int} {nx : List (List Int)} {σ : Nat}
    (h : Rn w b A p.length C B nx.length D f k (σ : Int) v1 v2 tr ac W) (hA : Ints w p A) (hB : II 0 w nx B) (hσ : σ < p.length) (y : Nat) (hy : y < nx.length) (hr : nx[y].length = p.length) (hz2 : nth nx[y] σ < p.length) (T : TypeId) (gv : Value) (hg : w.cell? ⟨1, 0, none⟩ = some (.iface T gv)) (ht : tr.length ≤ 100) (hc : ac.length ≤ 100) :
    Calls Tryd.prog 47 #[.pointer (some ⟨b, 0, none⟩), .int .i64 (y : Int)] W fun e w' =>
      (nth nx[y] σ < 0 ∧ e = .returned (.iface T gv) ∧ Rn w b A p.length C B nx.length D f k (σ : Int) v1 v2 tr ac w') ∨
      (∃ ζ : Nat, nth nx[y] σ = (ζ : Int) ∧ e = .returned .nilIface ∧ ∃ v1' v2', Rn w b A p.length C B nx.length D f k (ζ : Int) v1' v2' (tr ++ [nth p ζ]) (ac ++ [(y : Int)]) w') := by
  obtain ⟨A1, D1, rfl⟩ := h.form1
  obtain ⟨A2, D2, rfl⟩ := h.form2
  have H := Lib.hid h
  obtain ⟨yA, zA, rfl, hatA⟩ := hA (by rintro rfl; simp at hσ)
  obtain ⟨yB, zB, _, rfl, hatB⟩ := hB (by rintro rfl; simp at hy)
  obtain ⟨Bj, Dj, cB', hRow⟩ := hatB y nx[y] (List.getElem?_eq_getElem hy)
  obtain ⟨yR, zR, rfl, hatR⟩ := IntsL.ints hRow (by intro h; rw [h] at hr; simp at hr; omega)
  have hb := h.sees
  have cB := kc hb cB'
  have cR := kc hb (hatR σ (by omega))
  have cG := kc hb hg
  rw [hr] at cB
  obtain ⟨z, hz⟩ : ∃ z : Int, z = nth nx[y] σ := ⟨_, rfl⟩
  rw [← hz] at cR hz2 ⊢
  obtain ⟨x0, x1, x2, x3, x4, x5, x6, e3, e4, e5⟩ := seven_rn h.blk
  have s0 : (0 : Int) ≤ (σ : Int) := Int.natCast_nonneg _
  have s1 : (σ : Int) < (p.length : Int) := by omega
  have yy0 : (0 : Int) ≤ (y : Int) := Int.natCast_nonneg _
  have yy1 : (y : Int) < (nx.length : Int) := by omega
  have HATA := Lib.hid hatA
  clear hatA hatB hatR hRow cB' hz hA hB h hb hg hr
  by_cases hz0 : z < 0
  · have tz : decide (z < 0) = true := decide_eq_true hz0
    have HZ := Lib.hid hz0
    clear hz0
    go_enter Tryd.func47, Tryd.ntmps47
    go_wp2_with fail
    go_quiet (fail)
    have H2 := Lib.hid (H.out.below (Joins.below_draws _ _ nq))
    go_wp2_with fail
    go_ret
    exact Or.inl ⟨HZ.out, rfl, H2.out⟩
  · obtain ⟨ζ, rfl⟩ : ∃ ζ : Nat, z = ζ := ⟨z.toNat, by omega⟩
    have tz : decide ((ζ : Int) < 0) = false := decide_eq_false hz0
    have q0 : (0 : Int) ≤ (ζ : Int) := Int.natCast_nonneg _
    have hζ : ζ < p.length := by omega
    clear hz0
    go_enter Tryd.func47, Tryd.ntmps47
    go_wp2_with fail
    go_quiet (fail)
    go_upto_region 5 with fail
    have H4 := (H.out.below (Joins.below_draws _ _ nq)).state (ζ : Int)
    clear x0 x1 x2 x3 x4 x5 x6 e3 e4 e5 cB cR cG H
    generalize (W.drewN nq).setCell ⟨b, 3, none⟩ (.int .i64 (ζ : Int)) = W4 at H4 ⊢
    have H5 := H4.alloc (.cells #[.int .i64 (y : Int)] 2)
    obtain ⟨x0, x1, x2, x3, x4, x5, x6, e3, e4, e5⟩ := seven_rn H4.blk
    have I5 := one_int (W := W4) (y := (y : Int))
    have HH4 := Lib.hid H4
    clear H4
    have O5 := H5.o2
    have Z5 := H5.sees.size
    have HH5 := Lib.hid H5
    clear H5
    go_wp2_with (at_builtin; refine wpList_append_ints _ rfl _ _ rfl w.heap.size ac.length 1 1 _ ac [(y : Int)] (some ⟨W4.heap.size, 0, none⟩) rfl rfl O5 I5 rfl (by omega) Z5 ?_)
    intro v' w2 R2 g2 a2
    obtain ⟨hB2, H6, _⟩ := HH5.out.push2 R2 g2 (by simpa using a2)
    obtain ⟨A3, D3, hv⟩ := H6.form2
    rw [show (ac ++ [(y : Int)]).length = ac.length + 1 from by simp] at hv
    subst hv
    clear x0 x1 x2 x3 x4 x5 x6 e3 e4 e5 I5 O5 Z5 HH4 HH5 R2 g2 a2
    obtain ⟨x0, x1, x2, x3, x4, x5, x6, e3, e4, e5⟩ := seven_rn hB2
    have HH6 := Lib.hid H6
    clear H6 hB2
    go_upto_region 6 with fail
    clear x0 x1 x2 x3 x4 x5 x6 e3 e4 e5
    have H6 := HH6.out
    clear HH6
    generalize w2.setCell ⟨b, 5, none⟩ (.slice A3 (ac.length + 1) D3) = W6 at H6 ⊢
    have cU := kc H6.sees (HATA.out ζ hζ)
    obtain ⟨u, hu⟩ : ∃ u : Int, u = nth p ζ := ⟨_, rfl⟩
    rw [← hu] at cU
    have HU := Lib.hid hu
    obtain ⟨x0, x1, x2, x3, x4, x5, x6, e3, e4, e5⟩ := seven_rn H6.blk
    have I7 := one_int (W := W6) (y := u)
    have I8 : Ints (W6.alloc (.cells #[.int .i64 u] 2)).drew [u] (some ⟨W6.heap.size, 0, none⟩) := I7.drew
    have H7 := (H6.alloc (.cells #[.int .i64 u] 2)).drew
    have O7 := H7.o1
    have Z7 := H7.sees.size
    have HH7 := Lib.hid H7
    have q1 : (ζ : Int) < (p.length : Int) := by omega
    have y4 := ka (.cells #[.int .i64 u] 2) x4
    clear H7 H6 hu I7
    go_wp2_with fail
    go_region_law
      (first
        | (refine step_append_ints _ (by rfl) _ _ (by rfl) w.heap.size tr.length 1 1 _ tr [u] (some ⟨W6.heap.size, 0, none⟩) (by rfl) (by rfl) O7 I8 rfl (by omega) Z7 ?_; intro v'' w3 R3 g3 a3; obtain ⟨hB3, H8, _⟩ := HH7.out.push1 R3 g3 (by simpa using a3); obtain ⟨A4, D4, hv4⟩ := H8.form1; rw [show (tr ++ [u]).length = tr.length + 1 from by simp] at hv4; subst hv4; have HH8 := Lib.hid H8; clear x0 x1 x2 x3 x4 x5 x6 e3 e4 e5 cU y4 R3 g3 a3 H8; obtain ⟨x0, x1, x2, x3, x4, x5, x6, e3, e4, e5⟩ := seven_rn hB3; have HB3 := Lib.hid hB3; clear hB3)
        | fail)
    all_goals
      go_wp2_with fail
      go_ret
      exact Or.inr ⟨ζ, rfl, rfl, _, _, by rw [← HU.out]; exact HH8.out⟩
end Go.Proofs.YtlfafcbieeambaaDoor
