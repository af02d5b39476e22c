/- Runs of automata; what a valid automaton and a right word hold. Plain facts, no walk. -/
import Derived.Test.YtlaebkhmefnmnaaDoorValAI
import Derived.Test.YtlaebkhmefnmnaaDoorAutO
namespace Go.Proofs.YtlaebkhmefnmnaaDoor
open Go.RowKit

def nextA (nx : List (List (List Int))) (s x c : Int) : Int := if s < 0 then -1 else ((nx.getD s.toNat []).getD x.toNat []).getD c.toNat 0
def accA (ac : List (List Bool)) (s x : Int) : Bool := if s < 0 then false else (ac.getD s.toNat []).getD x.toNat false
def stateA (nx : List (List (List Int))) (p r : List Int) : Nat → Int
  | 0 => 0
  | j + 1 => nextA nx (stateA nx p r j) (nth p j) (nth r j)
def runA (ac : List (List Bool)) (nx : List (List (List Int))) (p r : List Int) : Bool := accA ac (stateA nx p r r.length) (nth p r.length)
/-- What RunAutomaton answers. -/
def raB (t a : Int) (ac : List (List Bool)) (nx : List (List (List Int))) (p r : List Int) : Bool := validA t a ac nx && (validW t a p r && runA ac nx p r)
def raC (t a : Int) (ac : List (List Bool)) (nx : List (List (List Int))) (p r : List Int) : Int := if validA t a ac nx && validW t a p r then 0 else 1

theorem stateA_neg {nx : List (List (List Int))} {p r : List Int} {j : Nat} (h : stateA nx p r j < 0) : ∀ k, stateA nx p r (j + k) < 0
  | 0 => h
  | k + 1 => by
    have := stateA_neg h k
    show nextA nx (stateA nx p r (j + k)) _ _ < 0
    unfold nextA
    rw [if_pos this]
    omega
theorem runA_neg {ac : List (List Bool)} {nx : List (List (List Int))} {p r : List Int} {j : Nat} (h : stateA nx p r j < 0) (hj : j ≤ r.length) : runA ac nx p r = false := by
  have := stateA_neg h (r.length - j)
  rw [show j + (r.length - j) = r.length by omega] at this
  unfold runA accA
  rw [if_pos this]

theorem valid_at {t a : Int} {ac : List (List Bool)} {nx : List (List (List Int))} (h : validA t a ac nx = true) :
    sigOk t a = true ∧ 1 ≤ ac.length ∧ ac.length ≤ 60 ∧ nx.length = ac.length ∧ ∀ s (h1 : s < ac.length) (h2 : s < nx.length), (ac[s].length : Int) = atomsN t ∧ (nx[s].length : Int) = atomsN t ∧ ∀ row ∈ nx[s], (row.length : Int) = a ∧ ∀ v ∈ row, -1 ≤ v ∧ v < ac.length := by
  unfold validA at h
  simp only [Bool.and_eq_true, decide_eq_true_eq] at h
  obtain ⟨h1, h2, h3, h4⟩ := h
  unfold inB at h2
  simp only [decide_eq_true_eq] at h2
  refine ⟨h1, by omega, by omega, h3, fun s ha hn => ?_⟩
  unfold statesOk at h4
  rw [List.drop_zero, List.drop_zero, List.all_eq_true] at h4
  have hm : (ac[s], nx[s]) ∈ ac.zip nx := by
    have hz : s < (ac.zip nx).length := by rw [List.length_zip]; omega
    have := List.getElem_mem hz
    rwa [List.getElem_zip] at this
  have h5 := h4 _ hm
  unfold stateOk at h5
  simp only [Bool.and_eq_true, decide_eq_true_eq, List.all_eq_true] at h5
  refine ⟨h5.1, h5.2.1, fun row hr => ?_⟩
  have h6 := h5.2.2 row hr
  unfold rowOk at h6
  simp only [Bool.and_eq_true, decide_eq_true_eq, List.all_eq_true] at h6
  refine ⟨h6.1, fun v hv => ?_⟩
  have h7 := h6.2 v hv
  unfold inB at h7
  simp only [decide_eq_true_eq] at h7
  omega
theorem validW_at {t a : Int} {p r : List Int} (h : validW t a p r = true) :
    p.length = r.length + 1 ∧ r.length ≤ 10 ∧ (∀ j, j < p.length → ∃ x : Nat, nth p j = x ∧ (x : Int) < atomsN t) ∧ ∀ j, j < r.length → ∃ c : Nat, nth r j = c ∧ (c : Int) < a := by
  unfold validW at h
  simp only [Bool.and_eq_true, decide_eq_true_eq, List.all_eq_true] at h
  obtain ⟨⟨⟨⟨_, h1⟩, h2⟩, h3⟩, h4⟩ := h
  refine ⟨h2, h1, fun j hj => ?_, fun j hj => ?_⟩
  · have := h3 p[j] (List.getElem_mem hj)
    unfold atomB inB at this
    simp only [decide_eq_true_eq] at this
    have e : nth p j = p[j] := by simp [nth, List.getD, hj]
    rw [e]
    exact ⟨p[j].toNat, by omega, by omega⟩
  · have := h4 r[j] (List.getElem_mem hj)
    rw [actB_below] at this
    unfold belowB at this
    simp only [decide_eq_true_eq] at this
    have e : nth r j = r[j] := by simp [nth, List.getD, hj]
    rw [e]
    exact ⟨r[j].toNat, by omega, by omega⟩

theorem next_look {t a : Int} {ac : List (List Bool)} {nx : List (List (List Int))} {w : World} {B : Option Addr} (hv : validA t a ac nx = true) (hB : III 0 w nx B) {s x c : Nat} (hs : s < ac.length) (hx : (x : Int) < atomsN t) (hc : (c : Int) < a) :
    ∃ yB zB D1 yR zR D2 yv zv lr lc : Nat, ∃ v : Int, B = some ⟨yB, zB, none⟩ ∧ w.cell? ⟨yB, zB + s, none⟩ = some (.slice (some ⟨yR, zR, none⟩) lr D1) ∧ w.cell? ⟨yR, zR + x, none⟩ = some (.slice (some ⟨yv, zv, none⟩) lc D2) ∧
      w.cell? ⟨yv, zv + c, none⟩ = some (.int .i64 v) ∧ x < lr ∧ c < lc ∧ nextA nx s x c = v ∧ -1 ≤ v ∧ v < ac.length := by
  obtain ⟨_, _, _, hl, hall⟩ := valid_at hv
  obtain ⟨_, hr, hrow⟩ := hall s hs (by omega)
  obtain ⟨yB, zB, _, hBe, hat⟩ := hB (by rintro rfl; simp at hl; omega)
  obtain ⟨R1, D1, c1, q1⟩ := hat s nx[s] (List.getElem?_eq_getElem (by omega))
  have hx1 : x < nx[s].length := by omega
  obtain ⟨yR, zR, _, rfl, hat2⟩ := q1 (by intro h; rw [h] at hx1; simp at hx1)
  obtain ⟨R2, D2, c2, q2⟩ := hat2 x nx[s][x] (List.getElem?_eq_getElem hx1)
  obtain ⟨hlc, hvs⟩ := hrow nx[s][x] (List.getElem_mem hx1)
  have hc1 : c < nx[s][x].length := by omega
  obtain ⟨yv, zv, _, rfl, hat3⟩ := q2 (by intro h; rw [h] at hc1; simp at hc1)
  have c3 := hat3 c nx[s][x][c] (List.getElem?_eq_getElem hc1)
  have hvv := hvs nx[s][x][c] (List.getElem_mem hc1)
  have hns : s < nx.length := by omega
  refine ⟨yB, zB, D1, yR, zR, D2, yv, zv, _, _, nx[s][x][c], hBe, c1, c2, c3, hx1, hc1, ?_, hvv.1, hvv.2⟩
  unfold nextA
  rw [if_neg (by omega)]
  simp [List.getD, hns, hx1, hc1]
theorem acc_look {t a : Int} {ac : List (List Bool)} {nx : List (List (List Int))} {w : World} {A : Option Addr} (hv : validA t a ac nx = true) (hA : BB 0 w ac A) {s x : Nat} (hs : s < ac.length) (hx : (x : Int) < atomsN t) :
    ∃ yA zA D1 yR zR lr : Nat, ∃ q : Bool, A = some ⟨yA, zA, none⟩ ∧ w.cell? ⟨yA, zA + s, none⟩ = some (.slice (some ⟨yR, zR, none⟩) lr D1) ∧ w.cell? ⟨yR, zR + x, none⟩ = some (.bool q) ∧ x < lr ∧ accA ac s x = q := by
  obtain ⟨_, _, _, hl, hall⟩ := valid_at hv
  obtain ⟨hr, _, _⟩ := hall s hs (by omega)
  obtain ⟨yA, zA, _, hAe, hat⟩ := hA (by rintro rfl; simp at hs)
  obtain ⟨R1, D1, c1, q1⟩ := hat s ac[s] (List.getElem?_eq_getElem hs)
  have hx1 : x < ac[s].length := by omega
  obtain ⟨yR, zR, _, rfl, hat2⟩ := q1 (by intro h; rw [h] at hx1; simp at hx1)
  have c2 := hat2 x ac[s][x] (List.getElem?_eq_getElem hx1)
  refine ⟨yA, zA, D1, yR, zR, _, ac[s][x], hAe, c1, c2, hx1, ?_⟩
  unfold accA
  rw [if_neg (by omega)]
  simp [List.getD, hs, hx1]
theorem raC_no {t a : Int} {ac : List (List Bool)} {nx : List (List (List Int))} {p r : List Int} (h : (validA t a ac nx && validW t a p r) = false) : raB t a ac nx p r = false ∧ raC t a ac nx p r = 1 := by
  unfold raB raC
  rw [← Bool.and_assoc, h]
  exact ⟨rfl, rfl⟩
theorem raC_yes {t a : Int} {ac : List (List Bool)} {nx : List (List (List Int))} {p r : List Int} (h1 : validA t a ac nx = true) (h2 : validW t a p r = true) : raB t a ac nx p r = runA ac nx p r ∧ raC t a ac nx p r = 0 := by
  unfold raB raC
  rw [h1, h2]
  exact ⟨rfl, rfl⟩
end Go.Proofs.YtlaebkhmefnmnaaDoor
