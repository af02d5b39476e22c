/- impl.chosen. -/
import Derived.Test.YtmblgkpgfofceaaRsD
import Derived.Test.YtmblgkpgfofceaaQuietC
import Derived.Deep.RegionLaw
import Derived.Deep.RegionHeld3
import Derived.Deep.DrawnRows
namespace Go.Proofs.Ytmblgkpgfofceaa
open Go.RowKit
set_option linter.unusedVariables false

set_option maxHeartbeats 2000000 in
set_option maxRecDepth 100000 in
theorem rsClo1_any (ac : List (List Bool)) (ord : List Int) (i x k : Nat) (hi : i < ac.length) (hx : x < ord.length) (hk : nth ord x = (k : Int)) (hkr : k < ac[i].length) (h8 : ac.length ≤ 8 ∧ ac[i].length ≤ 8 ∧ ord.length ≤ 8) (bm bl : Nat) (A O : Option Addr) (C OC : Nat) (w : World) (hA : BB 0 w ac A) (hO : Ints w ord O) (gm : w.cell? ⟨bm, 3, none⟩ = some (.slice A ac.length C)) (gl : w.cell? ⟨bl, 0, none⟩ = some (.slice O ord.length OC)) :
    Calls Try.prog 130 #[.int .i64 (i : Int), .int .i64 (x : Int), .pointer (some ⟨bm, 0, none⟩), .pointer (some ⟨bl, 0, none⟩)] w fun e w' => e = .returned (.bool ((ac.getD i []).getD k false)) ∧ Below w.heap.size w w' := by
  rw [getD_bb hi hkr]
  obtain ⟨y, z, _, rfl, hat⟩ := hA (by rintro rfl; simp at hi)
  obtain ⟨R, DD, c, q⟩ := hat i ac[i] (List.getElem?_eq_getElem hi)
  obtain ⟨row, hr⟩ : ∃ row, row = ac[i] := ⟨_, rfl⟩
  have h9 := h8.2.1
  have hx2 : k < row.length := by rw [hr]; exact hkr
  have he : ac[i][k] = row[k] := by subst hr; rfl
  rw [he]
  rw [← hr] at c q h9
  obtain ⟨y2, z2, _, rfl, hat2⟩ := q (by rintro rfl; simp at hx2)
  have d := hat2 k row[k] (List.getElem?_eq_getElem hx2)
  obtain ⟨v, hv⟩ : ∃ v, v = row[k] := ⟨_, rfl⟩
  rw [← hv] at d ⊢
  obtain ⟨yo, zo, rfl, hato⟩ := hO (by rintro rfl; simp at hx)
  have co := hato x hx
  rw [hk] at co
  have h1 := h8.1; have h2 := h8.2.2
  have i0 : (0 : Int) ≤ (i : Int) := Int.natCast_nonneg _
  have i1 : (i : Int) < (ac.length : Int) := by omega
  have x0 : (0 : Int) ≤ (x : Int) := Int.natCast_nonneg _
  have x1 : (x : Int) < (ord.length : Int) := by omega
  have k0 : (0 : Int) ≤ (k : Int) := Int.natCast_nonneg _
  have k1 : (k : Int) < (row.length : Int) := by omega
  clear hat hat2 he hr hv h8 hkr hk hato
  go_enter Try.func130, Try.ntmps130
  go_wp2_with fail
  refine wp_region_quietC w [(bm, 3, .slice (some ⟨y, z, none⟩) ac.length C), (y, z + i, .slice (some ⟨y2, z2, none⟩) row.length DD), (bl, 0, .slice (some ⟨yo, zo, none⟩) ord.length OC), (yo, zo + x, .int .i64 (k : Int)), (y2, z2 + k, .bool v)] (by kernel_rfl) (by kernel_rfl) ⟨Sees.refl _, gm, c, gl, co, d, trivial⟩ ?_
  repeat (first | go_big_quiet_skip | (go_big_quiet_want; apply Exists.intro; refine ⟨fun W hW => ?_, ?_⟩; focus (have hK := Lib.hid hW; obtain ⟨hs, hc⟩ := hW; simp only [Has, and_true] at hc; go_simp; (first | rfl | exact ⟨rfl, rfl⟩))) | (go_simp; go_big_quiet_on))
  refine wpQuiet_nil ?_
  intro w3 H3
  have HF := Lib.hid H3.1
  clear H3
  go_wp2_with fail
  go_ret
  exact ⟨rfl, HF.out⟩

set_option maxHeartbeats 2000000 in
set_option maxRecDepth 100000 in
theorem rsClo2_any (rows : List (List Bool)) (ord : List Int) (x y kx ky : Nat) (hx : x < ord.length) (hy : y < ord.length) (hkx : nth ord x = (kx : Int)) (hky : nth ord y = (ky : Int)) (hi : kx < rows.length) (hkr : ky < rows[kx].length) (h8 : rows.length ≤ 8 ∧ rows[kx].length ≤ 8 ∧ ord.length ≤ 8) (br bl : Nat) (A O : Option Addr) (C OC : Nat) (w : World) (hA : BB 0 w rows A) (hO : Ints w ord O) (gm : w.cell? ⟨br, 0, none⟩ = some (.slice A rows.length C)) (gl : w.cell? ⟨bl, 0, none⟩ = some (.slice O ord.length OC)) :
    Calls Try.prog 131 #[.int .i64 (x : Int), .int .i64 (y : Int), .pointer (some ⟨br, 0, none⟩), .pointer (some ⟨bl, 0, none⟩)] w fun e w' => e = .returned (.bool ((rows.getD kx []).getD ky false)) ∧ Below w.heap.size w w' := by
  rw [getD_bb hi hkr]
  obtain ⟨b, z, _, rfl, hat⟩ := hA (by rintro rfl; simp at hi)
  obtain ⟨R, DD, c, q⟩ := hat kx rows[kx] (List.getElem?_eq_getElem hi)
  obtain ⟨row, hr⟩ : ∃ row, row = rows[kx] := ⟨_, rfl⟩
  have h9 := h8.2.1
  have hx2 : ky < row.length := by rw [hr]; exact hkr
  have he : rows[kx][ky] = row[ky] := by subst hr; rfl
  rw [he]
  rw [← hr] at c q h9
  obtain ⟨y2, z2, _, rfl, hat2⟩ := q (by rintro rfl; simp at hx2)
  have d := hat2 ky row[ky] (List.getElem?_eq_getElem hx2)
  obtain ⟨v, hv⟩ : ∃ v, v = row[ky] := ⟨_, rfl⟩
  rw [← hv] at d ⊢
  obtain ⟨yo, zo, rfl, hato⟩ := hO (by rintro rfl; simp at hx)
  have cx := hato x hx
  have cy := hato y hy
  rw [hkx] at cx
  rw [hky] at cy
  have h1 := h8.1; have h2 := h8.2.2
  have i0 : (0 : Int) ≤ (kx : Int) := Int.natCast_nonneg _
  have i1 : (kx : Int) < (rows.length : Int) := by omega
  have x0 : (0 : Int) ≤ (x : Int) := Int.natCast_nonneg _
  have x1 : (x : Int) < (ord.length : Int) := by omega
  have y0 : (0 : Int) ≤ (y : Int) := Int.natCast_nonneg _
  have y1 : (y : Int) < (ord.length : Int) := by omega
  have k0 : (0 : Int) ≤ (ky : Int) := Int.natCast_nonneg _
  have k1 : (ky : Int) < (row.length : Int) := by omega
  clear hat hat2 he hr hv h8 hkr hkx hky hato
  go_enter Try.func131, Try.ntmps131
  go_wp2_with fail
  refine wp_region_quietC w [(br, 0, .slice (some ⟨b, z, none⟩) rows.length C), (b, z + kx, .slice (some ⟨y2, z2, none⟩) row.length DD), (bl, 0, .slice (some ⟨yo, zo, none⟩) ord.length OC), (yo, zo + x, .int .i64 (kx : Int)), (yo, zo + y, .int .i64 (ky : Int)), (y2, z2 + ky, .bool v)] (by kernel_rfl) (by kernel_rfl) ⟨Sees.refl _, gm, c, gl, cx, cy, d, trivial⟩ ?_
  repeat (first | go_big_quiet_skip | (go_big_quiet_want; apply Exists.intro; refine ⟨fun W hW => ?_, ?_⟩; focus (have hK := Lib.hid hW; obtain ⟨hs, hc⟩ := hW; simp only [Has, and_true] at hc; go_simp; (first | rfl | exact ⟨rfl, rfl⟩))) | (go_simp; go_big_quiet_on))
  refine wpQuiet_nil ?_
  intro w3 H3
  have HF := Lib.hid H3.1
  clear H3
  go_wp2_with fail
  go_ret
  exact ⟨rfl, HF.out⟩
end Go.Proofs.Ytmblgkpgfofceaa
