/- The law FnExactWordModel, walked, out of the contracts of both sides. -/
import Derived.Test.YtojheipllpkgdaaGenM
import Derived.Deep.RegionHeld3
import Derived.Deep.DrawnRows
import Derived.Deep.DeepCutAuto
namespace Go.Proofs.Ytojheipllpkgdaa
open Go.RowKit
attribute [local go_sem ↓] Go.wp_at_zero Go.wp_at_succ

set_option maxHeartbeats 40000000 in
set_option maxRecDepth 100000 in
theorem lawWordModel (t0 a0 : Int) (p1 r1 : List Int) (A1 B1 : Option Addr) (C1 D1 : Nat) {tR aR uR : Int} {acR : List (List Bool)} {nxR : List (List (List Bool))} {q : Int}
    (HU : Hid ((p1.length + r1.length) ≤ 1048576 → modN acR nxR ≤ 1048576))
    (KW : Hid ((p1.length + r1.length) ≤ 1048576 → ∀ (W : World) (Z1 Y1 : Option Addr), Ints W p1 Z1 → Ints W r1 Y1 → Calls Try.prog 10 #[.agg #[.int .i64 t0, .int .i64 a0], .agg #[.slice Z1 p1.length p1.length, .slice Y1 r1.length r1.length]] W (MEnd tR aR uR acR nxR q W)))
    (KG : Hid ((p1.length + r1.length) ≤ 1048576 → ∀ (W : World) (Z1 Y1 : Option Addr), Ints W p1 Z1 → Ints W r1 Y1 → Calls Try.prog 13 #[.agg #[.int .i64 t0, .int .i64 a0], .agg #[.slice Z1 p1.length p1.length, .slice Y1 r1.length r1.length]] W (MEnd tR aR uR acR nxR q W)))
    (w : World) (hm1 : Hid (p1.length ≤ 9223372036854775807 ∧ r1.length ≤ 9223372036854775807)) (hl1 : Ints w p1 A1) (hr1 : Ints w r1 B1) :
    Calls Try.prog 3 #[.agg #[.int .i64 t0, .int .i64 a0], .agg #[.slice A1 p1.length C1, .slice B1 r1.length D1]] w fun e w' => e = .returned (.bool true) ∧ Below w.heap.size w w' := by
  by_cases hbig1 : 1048576 < ((p1.length + r1.length) : Nat)
  · have hs : szR (p1.length + r1.length) 1048576 = -1 := szR_neg (by omega)
    have KS1 : Hid (∀ W : World, Sees w W → Calls Try.prog 9 #[.agg #[.slice A1 p1.length C1, .slice B1 r1.length D1], .int .i64 1048576] W fun e w' => e = .returned (.int .i64 (-1)) ∧ Below W.heap.size W w') := fun W h => by rw [← hs]; exact szWord_any p1 r1 hm1.out.1 hm1.out.2 1048576 A1 B1 C1 D1 W (by omega) (by omega)
    clear hs
    go_enter Try.func3, Try.ntmps3
    go_wp2_with fail
    refine (KS1.out _ ?_).mono ?_
    · unfold Sees; go_grown
    rintro e wz0 ⟨rfl, hb⟩
    have T := St.below (w := w) (l := [(w.heap.size, 0, .int .i64 t0), (w.heap.size, 1, .int .i64 a0), (w.heap.size + 1, 0, .slice A1 p1.length C1), (w.heap.size + 1, 1, .slice B1 r1.length D1)]) ⟨(by unfold Sees; go_grown), (by simp [go_sem]), (by simp [go_sem]), (by simp [go_sem]), (by simp [go_sem]), trivial⟩ hb
    have H := Lib.hid T; clear T hb
    obtain ⟨x0, x1, x2, x3, x4, _⟩ := H.out
    go_wp2_with fail
    clear x0 x1 x2 x3 x4
    go_ret
    exact ⟨rfl, H.out.1⟩
  obtain ⟨s1, hs, hz1, hy1, he1⟩ : ∃ s : Int, s = szR (p1.length + r1.length) 1048576 ∧ 0 ≤ s ∧ s ≤ 1048576 ∧ Hid (s = 1048576 - ((p1.length + r1.length) : Nat)) := ⟨_, rfl, by rw [szR_pos (by omega)]; omega, by rw [szR_pos (by omega)]; omega, by show _ = _; rw [szR_pos (by omega)]; try omega⟩
  have KS1 : Hid (∀ W : World, Sees w W → Calls Try.prog 9 #[.agg #[.slice A1 p1.length C1, .slice B1 r1.length D1], .int .i64 1048576] W fun e w' => e = .returned (.int .i64 s1) ∧ Below W.heap.size W w') := fun W h => by rw [hs]; exact szWord_any p1 r1 hm1.out.1 hm1.out.2 1048576 A1 B1 C1 D1 W (by omega) (by omega)
  clear hs
  have hsmall : (p1.length + r1.length) ≤ 1048576 := by have := he1.out; omega
  have hu : Hid (modN acR nxR ≤ 1048576) := HU.out hsmall
  clear HU
  have KT0 : Hid (∀ W : World, Sees w W → Calls Try.prog 11 #[.agg #[.int .i64 t0, .int .i64 a0]] W fun e w' => e = .returned (.agg #[.int .i64 t0, .int .i64 a0]) ∧ Below W.heap.size W w') := fun W h => toSig_any t0 a0 W
  have KT1 : Hid (∀ W : World, Sees w W → Calls Try.prog 12 #[.agg #[.slice A1 p1.length C1, .slice B1 r1.length D1]] W fun e w' => ∃ Z Y, e = .returned (.agg #[.slice Z p1.length p1.length, .slice Y r1.length r1.length]) ∧ WordIn w' p1 r1 W.heap.size w'.heap.size Z Y ∧ Below W.heap.size W w') :=
    fun W h => toWord_any p1 r1 (by omega) (by omega) A1 B1 C1 D1 W (hl1.sees h) (hr1.sees h)
  have KE1 : Hid (∀ (W : World) (Z Y Z' Y' : Option Addr), Ints W p1 Z → Ints W r1 Y → Ints W p1 Z' → Ints W r1 Y' → Calls Try.prog 15 #[.agg #[.slice Z p1.length p1.length, .slice Y r1.length r1.length], .agg #[.slice Z' p1.length p1.length, .slice Y' r1.length r1.length]] W fun e w' => e = .returned (.bool true) ∧ Below W.heap.size W w') :=
    fun W Z Y Z' Y' h1 h2 h3 h4 => eqWord_same p1 r1 hm1.out.1 hm1.out.2 _ _ _ _ _ _ _ _ W h1 h2 h3 h4
  obtain ⟨y1, hk, kl1, ku1, kn1⟩ : ∃ y : Int, y = 1 + p1.length + r1.length ∧ 0 ≤ y ∧ y ≤ 4194304 ∧ Hid (y = 1 + p1.length + r1.length) := ⟨_, rfl, by omega, by omega, rfl⟩
  have KM1 : Hid (∀ (W : World) (lo hi : Nat) (Z Y : Option Addr) (C D : Nat), WordIn W p1 r1 lo hi Z Y → hi ≤ W.heap.size → Calls Try.prog 16 #[.agg #[.slice Z p1.length C, .slice Y r1.length D], .int .i64 1] W fun e w' => e = .returned (.int .i64 y1) ∧ ButIn lo hi W w') :=
    fun W lo hi Z Y C D h hz => (markWord_any p1 r1 (by omega) (by omega) 1 (by omega) (by omega) lo hi Z Y C D W h hz).mono fun e w' ⟨he, _, hb⟩ => ⟨by rw [hk]; exact he, hb⟩
  clear hk
  have tk : decide (y1 < 0) = false := decide_eq_false (by omega)
  have hsr := modN_small hu.out; have hzr := modZ_le hu.out; have hfit := fitM_small hsr
  obtain ⟨mm, hmm, ml⟩ : ∃ m : Int, m = 1 + (szL List.length acR : Nat) + (szL (szL List.length) nxR : Nat) ∧ 0 ≤ m := ⟨_, rfl, by omega⟩
  have KU : Hid (∀ (W : World) (lo hi : Nat) (Z Y : Option Addr) (C D : Nat), ModF W acR nxR lo hi Z Y → hi ≤ W.heap.size → Calls Try.prog 17 #[.agg #[.int .i64 tR, .int .i64 aR, .int .i64 uR, .slice Z acR.length C, .slice Y nxR.length D], .int .i64 1] W fun e w' => e = .returned (.int .i64 mm) ∧ ModF w' (mkL (mkE mb) List.length 1 acR) (mkL (mkL (mkE mb) List.length) (szL List.length) (1 + (szL List.length acR : Nat)) nxR) lo hi Z Y ∧ ButIn lo hi W w') :=
    fun W lo hi Z Y C D h hz => (markModelF tR aR uR acR nxR hsr 1 (by omega) (by omega) lo hi Z Y C D W h hz).mono fun e w' ⟨he, hi, hb⟩ => ⟨by rw [hmm]; exact he, hi, hb⟩
  have KH : Hid (∀ (W : World) (Z Y : Option Addr) (C D : Nat), BB 0 W (mkL (mkE mb) List.length 1 acR) Z → BBB 0 W (mkL (mkL (mkE mb) List.length) (szL List.length) (1 + (szL List.length acR : Nat)) nxR) Y → Calls Try.prog 18 #[.agg #[.int .i64 tR, .int .i64 aR, .int .i64 uR, .slice Z acR.length C, .slice Y nxR.length D], .int .i64 1] W fun e w' => e = .returned (.int .i64 mm) ∧ Below W.heap.size W w') :=
    fun W Z Y C D h1 h2 => (heldModelF tR aR uR acR nxR hsr 1 (by omega) (by omega) Z Y C D W h1 h2).mono fun e w' ⟨he, hb⟩ => ⟨by rw [hmm]; exact he, hb⟩
  have KQ : Hid (∀ (W : World) (Z Y Z' Y' : Option Addr) (C D C' D' : Nat), BB 0 W acR Z → BBB 0 W nxR Y → BB 0 W acR Z' → BBB 0 W nxR Y' → Calls Try.prog 14 #[.agg #[.int .i64 tR, .int .i64 aR, .int .i64 uR, .slice Z acR.length C, .slice Y nxR.length D], .agg #[.int .i64 tR, .int .i64 aR, .int .i64 uR, .slice Z' acR.length C', .slice Y' nxR.length D']] W fun e w' => e = .returned (.bool true) ∧ Below W.heap.size W w') :=
    fun W Z Y Z' Y' C D C' D' h1 h2 h3 h4 => eqModel_same tR aR uR acR nxR hfit _ _ _ _ _ _ _ _ W h1 h2 h3 h4
  have tm : decide (mm < 0) = false := decide_eq_false (by omega)
  have nq : (q != q) = false := by simp
  have nm : (mm != mm) = false := by simp
  have KW2 := Lib.hid (KW.out hsmall); clear KW
  have KG2 := Lib.hid (KG.out hsmall); clear KG hsmall hmm hfit hsr hzr 
  go_enter Try.func3, Try.ntmps3
  go_wp2_with fail
  refine (KS1.out _ ?_).mono ?_
  · unfold Sees; go_grown
  rintro e wz0 ⟨rfl, hb⟩
  have T := St.below (w := w) (l := [(w.heap.size, 0, .int .i64 t0), (w.heap.size, 1, .int .i64 a0), (w.heap.size + 1, 0, .slice A1 p1.length C1), (w.heap.size + 1, 1, .slice B1 r1.length D1)]) ⟨(by unfold Sees; go_grown), (by simp [go_sem]), (by simp [go_sem]), (by simp [go_sem]), (by simp [go_sem]), trivial⟩ hb
  have H := Lib.hid T; clear T hb
  obtain ⟨x0, x1, x2, x3, x4, _⟩ := H.out
  go_wp2_with fail
  clear x0 x1 x2 x3 x4
  have HR := Lib.hid (Gs.start H.out); clear H
  obtain ⟨x0, x1, x2, x3, x4, _⟩ := HR.out.st
  go_wp2_with fail
  go_cut [6, 7] (fun sp sc wx => ∃ (bq1 loq1 hiq1 : Nat) (Zq1 Yq1 : Option Addr) (Cq1 Dq1 : Nat), sp = .pointer (some ⟨bq1, 0, none⟩) ∧ sc = .int .i64 q ∧ Gs w [(bq1, 0, .int .i64 tR), (bq1, 1, .int .i64 aR), (bq1, 2, .int .i64 uR), (bq1, 3, .slice Zq1 acR.length Cq1), (bq1, 4, .slice Yq1 nxR.length Dq1), (w.heap.size, 0, .int .i64 t0), (w.heap.size, 1, .int .i64 a0), (w.heap.size + 1, 0, .slice A1 p1.length C1), (w.heap.size + 1, 1, .slice B1 r1.length D1)] (ownM acR nxR loq1 hiq1 Zq1 Yq1 :: []) wx)
  case first =>
    clear x0 x1 x2 x3 x4
    refine wp_region_held_drew (S := fun w' => St w [(w.heap.size, 0, .int .i64 t0), (w.heap.size, 1, .int .i64 a0), (w.heap.size + 1, 0, .slice A1 p1.length C1), (w.heap.size + 1, 1, .slice B1 r1.length D1)] w') (by kernel_rfl) HR.out.drew.st (fun HS => ?_)
    obtain ⟨w20, ew20⟩ : ∃ wn, wn = _ := ⟨_, rfl⟩
    have G0 : Hid (Gs w [(w.heap.size, 0, .int .i64 t0), (w.heap.size, 1, .int .i64 a0), (w.heap.size + 1, 0, .slice A1 p1.length C1), (w.heap.size + 1, 1, .slice B1 r1.length D1)] [] w20) := by rw [ew20]; exact HR.out.drew
    rw [← ew20] at HS ⊢
    clear ew20 HR
    have HR := G0; clear G0
    refine wpAnyH_take (i := 0) (oi := { dst := some 22, op := Op.load 23 (Operand.tmp 2), type := 23, pos := "exact.go:6087", after := #[], guard := none }) (v := .agg #[.int .i64 t0, .int .i64 a0]) rfl (by kernel_rfl) (by kernel_rfl) (by kernel_rfl) (fun _ _ _ h => h) (Or.inl ⟨rfl, fun W hW => by (obtain ⟨_, y0_, y1_, y2_, y3_, _⟩ := hW; go_simp; try rfl)⟩) HS ?_
    try simp only [Act.put, List.setIfInBounds_toArray, List.set_cons_zero, List.set_cons_succ]
    refine wpAnyH_take (i := 2) (oi := { dst := some 24, op := Op.load 26 (Operand.tmp 3), type := 26, pos := "exact.go:6087", after := #[], guard := none }) (v := .agg #[.slice A1 p1.length C1, .slice B1 r1.length D1]) rfl (by kernel_rfl) (by kernel_rfl) (by kernel_rfl) (fun _ _ _ h => h) (Or.inl ⟨rfl, fun W hW => by (obtain ⟨_, y0_, y1_, y2_, y3_, _⟩ := hW; go_simp; try rfl)⟩) HS ?_
    try simp only [Act.put, List.setIfInBounds_toArray, List.set_cons_zero, List.set_cons_succ]
    refine wpAnyH_ready (rs := [1, 8]) (by kernel_rfl) (by simp) ?_
    refine (AllReadyH.cons (o := { dst := some 23, op := Op.call { callee := Callee.value (Operand.func 11), args := #[Operand.tmp 22], argTypes := #[23] }, type := 28, pos := "exact.go:6087", after := #[{ on := 0, ground := Ground.data }], guard := none }) rfl (fun K hK => ?_) (AllReadyH.cons (o := { dst := some 6, op := Op.alloc 32, type := 0, pos := "exact.go:6087", after := #[], guard := none }) rfl (fun K hK => ?_) AllReadyH.nil))
    · go_simp
      refine (KT0.out _ HR.out.st.1).mono ?_
      rintro e wn1 ⟨rfl, hb⟩
      have H2 := Lib.hid (HR.out.below hb)
      clear HR; have HR := H2; clear H2 hb
      clear HS; have HS := HR.out.st
      refine hK.out _ _ HS (fun _ => ?_)
      clear hK K
      try simp only [Act.put, List.setIfInBounds_toArray, List.set_cons_zero, List.set_cons_succ]
      refine wpAnyH_ready (rs := [3, 8]) (by kernel_rfl) (by simp) ?_
      refine (AllReadyH.cons (o := { dst := some 25, op := Op.call { callee := Callee.value (Operand.func 12), args := #[Operand.tmp 24], argTypes := #[26] }, type := 36, pos := "exact.go:6087", after := #[{ on := 2, ground := Ground.data }, { on := 1, ground := Ground.chain }], guard := none }) rfl (fun K hK => ?_) (AllReadyH.cons (o := { dst := some 6, op := Op.alloc 32, type := 0, pos := "exact.go:6087", after := #[], guard := none }) rfl (fun K hK => ?_) AllReadyH.nil))
      · go_simp
        refine (KT1.out _ HR.out.st.1).mono ?_
        rintro e wn2 ⟨Zc1, Yc1, rfl, Ic, hb⟩
        have H2 := Lib.hid (HR.out.resV Ic hb)
        clear HR; have HR := H2; clear H2 hb
        clear HS; have HS := HR.out.st
        refine hK.out _ _ HS (fun _ => ?_)
        clear hK K
        try simp only [Act.put, List.setIfInBounds_toArray, List.set_cons_zero, List.set_cons_succ]
        refine wpAnyH_ready (rs := [4, 8]) (by kernel_rfl) (by simp) ?_
        refine (AllReadyH.cons (o := { dst := some 26, op := Op.call { callee := Callee.value (Operand.func 10), args := #[Operand.tmp 23, Operand.tmp 25], argTypes := #[28, 36] }, type := 33, pos := "exact.go:6087", after := #[{ on := 1, ground := Ground.data }, { on := 3, ground := Ground.data }, { on := 3, ground := Ground.chain }], guard := none }) rfl (fun K hK => ?_) (AllReadyH.cons (o := { dst := some 6, op := Op.alloc 32, type := 0, pos := "exact.go:6087", after := #[], guard := none }) rfl (fun K hK => ?_) AllReadyH.nil))
        · go_simp
          refine (KW2.out _ _ _ (HR.out.v1) (HR.out.v2)).mono ?_
          rintro e wn3 ⟨Zr, Yr, Cr, Dr, rfl, Ir, hb⟩
          have H2 := Lib.hid ((HR.out.resM Ir hb).skip)
          clear HR; have HR := H2; clear H2 hb
          clear HS; have HS := HR.out.st
          refine hK.out _ _ HS (fun _ => ?_)
          clear hK K
          try simp only [Act.put, List.setIfInBounds_toArray, List.set_cons_zero, List.set_cons_succ]
          refine wpAnyH_take (i := 5) (oi := { dst := some 21, op := Op.move (Operand.tmp 26), type := 33, pos := "exact.go:6087", after := #[{ on := 4, ground := Ground.data }], guard := none }) (v := .tuple #[.agg #[.int .i64 tR, .int .i64 aR, .int .i64 uR, .slice Zr acR.length Cr, .slice Yr nxR.length Dr], .int .i64 q]) rfl (by kernel_rfl) (by kernel_rfl) (by kernel_rfl) (fun _ _ _ h => h) (Or.inl ⟨rfl, fun W hW => by (obtain ⟨_, y0_, y1_, y2_, y3_, _⟩ := hW; go_simp; try rfl)⟩) HS ?_
          try simp only [Act.put, List.setIfInBounds_toArray, List.set_cons_zero, List.set_cons_succ]
          refine wpAnyH_take (i := 6) (oi := { dst := some 27, op := Op.extract (Operand.tmp 21) 0, type := 32, pos := "exact.go:6087", after := #[{ on := 5, ground := Ground.data }], guard := none }) (v := .agg #[.int .i64 tR, .int .i64 aR, .int .i64 uR, .slice Zr acR.length Cr, .slice Yr nxR.length Dr]) rfl (by kernel_rfl) (by kernel_rfl) (by kernel_rfl) (fun _ _ _ h => h) (Or.inl ⟨rfl, fun W hW => by (obtain ⟨_, y0_, y1_, y2_, y3_, _⟩ := hW; go_simp; try rfl)⟩) HS ?_
          try simp only [Act.put, List.setIfInBounds_toArray, List.set_cons_zero, List.set_cons_succ]
          refine wpAnyH_take (i := 7) (oi := { dst := some 28, op := Op.extract (Operand.tmp 21) 1, type := 2, pos := "exact.go:6087", after := #[{ on := 5, ground := Ground.data }, { on := 9, ground := Ground.gcOnly Departure.lateStores }], guard := none }) (v := .int .i64 q) rfl (by kernel_rfl) (by kernel_rfl) (by kernel_rfl) (fun _ _ _ h => h) (Or.inl ⟨rfl, fun W hW => by (obtain ⟨_, y0_, y1_, y2_, y3_, _⟩ := hW; go_simp; try rfl)⟩) HS ?_
          try simp only [Act.put, List.setIfInBounds_toArray, List.set_cons_zero, List.set_cons_succ]
          refine wpAnyH_ready (rs := [8]) (by kernel_rfl) (by simp) ?_
          refine (AllReadyH.cons (o := { dst := some 6, op := Op.alloc 32, type := 0, pos := "exact.go:6087", after := #[], guard := none }) rfl (fun K hK => ?_) AllReadyH.nil)
          · go_simp
            have H2 := HR.out.boxed #[.int .i64 0, .int .i64 0, .int .i64 0, .slice none 0 0, .slice none 0 0] 32
            obtain ⟨wn4, ewn⟩ : ∃ W, W = World.alloc wn3 (.cells #[.int .i64 0, .int .i64 0, .int .i64 0, .slice none 0 0, .slice none 0 0] 32 (0, 0)) := ⟨_, rfl⟩
            obtain ⟨wn4b, ebn⟩ : ∃ n, n = wn3.heap.size := ⟨_, rfl⟩
            rw [← ewn, ← ebn] at H2 ⊢
            clear HR ewn ebn; have HR := Lib.hid H2; clear H2
            clear HS; have HS := HR.out.st
            refine hK.out _ _ HS (fun _ => ?_)
            clear hK K
            try simp only [Act.put, List.setIfInBounds_toArray, List.set_cons_zero, List.set_cons_succ]
            obtain ⟨c0, c1, c2, c3, c4, g0, g1, g2, g3, g4⟩ := HR.out.facts5
            refine wpAnyH_ready (rs := [9]) (by kernel_rfl) (by simp) ?_
            refine AllReadyH.cons (o := { dst := none, op := Op.store 32 (Operand.tmp 6) (Operand.tmp 27), type := 0, pos := "exact.go:6087", after := #[{ on := 8, ground := Ground.data }, { on := 6, ground := Ground.data }, { on := 4, ground := Ground.chain }, { on := 0, ground := Ground.phase }, { on := 1, ground := Ground.phase }, { on := 2, ground := Ground.phase }, { on := 3, ground := Ground.phase }, { on := 4, ground := Ground.phase }, { on := 5, ground := Ground.phase }, { on := 6, ground := Ground.phase }, { on := 7, ground := Ground.textOnly Departure.lateStores }, { on := 8, ground := Ground.phase }], guard := none }) rfl (fun K hK => ?_) AllReadyH.nil
            go_simp
            have HS' : St w [(w.heap.size, 0, .int .i64 t0), (w.heap.size, 1, .int .i64 a0), (w.heap.size + 1, 0, .slice A1 p1.length C1), (w.heap.size + 1, 1, .slice B1 r1.length D1)] _ := (HR.out.fill5 (.int .i64 tR) (.int .i64 aR) (.int .i64 uR) (.slice Zr acR.length Cr) (.slice Yr nxR.length Dr)).st
            refine hK.out _ _ HS' (fun _ => ?_)
            clear hK K HS
            have HS := HS'; clear HS'
            try simp only [Act.put, List.setIfInBounds_toArray, List.set_cons_zero, List.set_cons_succ]
            refine wpAnyH_take (i := 10) (oi := { dst := some 7, op := Op.assign (Operand.tmp 28), type := 2, pos := "exact.go:6087", after := #[{ on := 7, ground := Ground.data }, { on := 9, ground := Ground.chain }, { on := 0, ground := Ground.phase }, { on := 1, ground := Ground.phase }, { on := 2, ground := Ground.phase }, { on := 3, ground := Ground.phase }, { on := 4, ground := Ground.phase }, { on := 5, ground := Ground.phase }, { on := 6, ground := Ground.phase }, { on := 7, ground := Ground.phase }, { on := 8, ground := Ground.phase }, { on := 9, ground := Ground.phase }], guard := none }) (v := .int .i64 q) rfl (by kernel_rfl) (by kernel_rfl) (by kernel_rfl) (fun _ _ _ h => h) (Or.inl ⟨rfl, fun W hW => by (obtain ⟨_, y0_, y1_, y2_, y3_, _⟩ := hW; go_simp; try rfl)⟩) HS ?_
            try simp only [Act.put, List.setIfInBounds_toArray, List.set_cons_zero, List.set_cons_succ]
            refine wpAnyH_done (by kernel_rfl) ?_ _
            clear HS
            go_wp2_with fail
            go_meet
            exact ⟨_, _, _, _, _, _, _, rfl, rfl, HR.out.done5 _ _ _ _ _⟩
        · go_simp
          have H2 := HR.out.boxed #[.int .i64 0, .int .i64 0, .int .i64 0, .slice none 0 0, .slice none 0 0] 32
          obtain ⟨wn5, ewn⟩ : ∃ W, W = World.alloc wn2 (.cells #[.int .i64 0, .int .i64 0, .int .i64 0, .slice none 0 0, .slice none 0 0] 32 (0, 0)) := ⟨_, rfl⟩
          obtain ⟨wn5b, ebn⟩ : ∃ n, n = wn2.heap.size := ⟨_, rfl⟩
          rw [← ewn, ← ebn] at H2 ⊢
          clear HR ewn ebn; have HR := Lib.hid H2; clear H2
          clear HS; have HS := HR.out.st
          refine hK.out _ _ HS (fun _ => ?_)
          clear hK K
          try simp only [Act.put, List.setIfInBounds_toArray, List.set_cons_zero, List.set_cons_succ]
          refine wpAnyH_ready (rs := [4]) (by kernel_rfl) (by simp) ?_
          refine (AllReadyH.cons (o := { dst := some 26, op := Op.call { callee := Callee.value (Operand.func 10), args := #[Operand.tmp 23, Operand.tmp 25], argTypes := #[28, 36] }, type := 33, pos := "exact.go:6087", after := #[{ on := 1, ground := Ground.data }, { on := 3, ground := Ground.data }, { on := 3, ground := Ground.chain }], guard := none }) rfl (fun K hK => ?_) AllReadyH.nil)
          · go_simp
            refine (KW2.out _ _ _ (HR.out.v1) (HR.out.v2)).mono ?_
            rintro e wn6 ⟨Zr, Yr, Cr, Dr, rfl, Ir, hb⟩
            have H2 := Lib.hid ((HR.out.resM Ir hb).skip)
            clear HR; have HR := H2; clear H2 hb
            clear HS; have HS := HR.out.st
            refine hK.out _ _ HS (fun _ => ?_)
            clear hK K
            try simp only [Act.put, List.setIfInBounds_toArray, List.set_cons_zero, List.set_cons_succ]
            refine wpAnyH_take (i := 5) (oi := { dst := some 21, op := Op.move (Operand.tmp 26), type := 33, pos := "exact.go:6087", after := #[{ on := 4, ground := Ground.data }], guard := none }) (v := .tuple #[.agg #[.int .i64 tR, .int .i64 aR, .int .i64 uR, .slice Zr acR.length Cr, .slice Yr nxR.length Dr], .int .i64 q]) rfl (by kernel_rfl) (by kernel_rfl) (by kernel_rfl) (fun _ _ _ h => h) (Or.inl ⟨rfl, fun W hW => by (obtain ⟨_, y0_, y1_, y2_, y3_, _⟩ := hW; go_simp; try rfl)⟩) HS ?_
            try simp only [Act.put, List.setIfInBounds_toArray, List.set_cons_zero, List.set_cons_succ]
            refine wpAnyH_take (i := 6) (oi := { dst := some 27, op := Op.extract (Operand.tmp 21) 0, type := 32, pos := "exact.go:6087", after := #[{ on := 5, ground := Ground.data }], guard := none }) (v := .agg #[.int .i64 tR, .int .i64 aR, .int .i64 uR, .slice Zr acR.length Cr, .slice Yr nxR.length Dr]) rfl (by kernel_rfl) (by kernel_rfl) (by kernel_rfl) (fun _ _ _ h => h) (Or.inl ⟨rfl, fun W hW => by (obtain ⟨_, y0_, y1_, y2_, y3_, _⟩ := hW; go_simp; try rfl)⟩) HS ?_
            try simp only [Act.put, List.setIfInBounds_toArray, List.set_cons_zero, List.set_cons_succ]
            refine wpAnyH_take (i := 7) (oi := { dst := some 28, op := Op.extract (Operand.tmp 21) 1, type := 2, pos := "exact.go:6087", after := #[{ on := 5, ground := Ground.data }, { on := 9, ground := Ground.gcOnly Departure.lateStores }], guard := none }) (v := .int .i64 q) rfl (by kernel_rfl) (by kernel_rfl) (by kernel_rfl) (fun _ _ _ h => h) (Or.inl ⟨rfl, fun W hW => by (obtain ⟨_, y0_, y1_, y2_, y3_, _⟩ := hW; go_simp; try rfl)⟩) HS ?_
            try simp only [Act.put, List.setIfInBounds_toArray, List.set_cons_zero, List.set_cons_succ]
            obtain ⟨c0, c1, c2, c3, c4, g0, g1, g2, g3, g4⟩ := HR.out.facts5
            refine wpAnyH_ready (rs := [9]) (by kernel_rfl) (by simp) ?_
            refine AllReadyH.cons (o := { dst := none, op := Op.store 32 (Operand.tmp 6) (Operand.tmp 27), type := 0, pos := "exact.go:6087", after := #[{ on := 8, ground := Ground.data }, { on := 6, ground := Ground.data }, { on := 4, ground := Ground.chain }, { on := 0, ground := Ground.phase }, { on := 1, ground := Ground.phase }, { on := 2, ground := Ground.phase }, { on := 3, ground := Ground.phase }, { on := 4, ground := Ground.phase }, { on := 5, ground := Ground.phase }, { on := 6, ground := Ground.phase }, { on := 7, ground := Ground.textOnly Departure.lateStores }, { on := 8, ground := Ground.phase }], guard := none }) rfl (fun K hK => ?_) AllReadyH.nil
            go_simp
            have HS' : St w [(w.heap.size, 0, .int .i64 t0), (w.heap.size, 1, .int .i64 a0), (w.heap.size + 1, 0, .slice A1 p1.length C1), (w.heap.size + 1, 1, .slice B1 r1.length D1)] _ := (HR.out.fill5 (.int .i64 tR) (.int .i64 aR) (.int .i64 uR) (.slice Zr acR.length Cr) (.slice Yr nxR.length Dr)).st
            refine hK.out _ _ HS' (fun _ => ?_)
            clear hK K HS
            have HS := HS'; clear HS'
            try simp only [Act.put, List.setIfInBounds_toArray, List.set_cons_zero, List.set_cons_succ]
            refine wpAnyH_take (i := 10) (oi := { dst := some 7, op := Op.assign (Operand.tmp 28), type := 2, pos := "exact.go:6087", after := #[{ on := 7, ground := Ground.data }, { on := 9, ground := Ground.chain }, { on := 0, ground := Ground.phase }, { on := 1, ground := Ground.phase }, { on := 2, ground := Ground.phase }, { on := 3, ground := Ground.phase }, { on := 4, ground := Ground.phase }, { on := 5, ground := Ground.phase }, { on := 6, ground := Ground.phase }, { on := 7, ground := Ground.phase }, { on := 8, ground := Ground.phase }, { on := 9, ground := Ground.phase }], guard := none }) (v := .int .i64 q) rfl (by kernel_rfl) (by kernel_rfl) (by kernel_rfl) (fun _ _ _ h => h) (Or.inl ⟨rfl, fun W hW => by (obtain ⟨_, y0_, y1_, y2_, y3_, _⟩ := hW; go_simp; try rfl)⟩) HS ?_
            try simp only [Act.put, List.setIfInBounds_toArray, List.set_cons_zero, List.set_cons_succ]
            refine wpAnyH_done (by kernel_rfl) ?_ _
            clear HS
            go_wp2_with fail
            go_meet
            exact ⟨_, _, _, _, _, _, _, rfl, rfl, HR.out.done5 _ _ _ _ _⟩
      · go_simp
        have H2 := HR.out.boxed #[.int .i64 0, .int .i64 0, .int .i64 0, .slice none 0 0, .slice none 0 0] 32
        obtain ⟨wn7, ewn⟩ : ∃ W, W = World.alloc wn1 (.cells #[.int .i64 0, .int .i64 0, .int .i64 0, .slice none 0 0, .slice none 0 0] 32 (0, 0)) := ⟨_, rfl⟩
        obtain ⟨wn7b, ebn⟩ : ∃ n, n = wn1.heap.size := ⟨_, rfl⟩
        rw [← ewn, ← ebn] at H2 ⊢
        clear HR ewn ebn; have HR := Lib.hid H2; clear H2
        clear HS; have HS := HR.out.st
        refine hK.out _ _ HS (fun _ => ?_)
        clear hK K
        try simp only [Act.put, List.setIfInBounds_toArray, List.set_cons_zero, List.set_cons_succ]
        refine wpAnyH_ready (rs := [3]) (by kernel_rfl) (by simp) ?_
        refine (AllReadyH.cons (o := { dst := some 25, op := Op.call { callee := Callee.value (Operand.func 12), args := #[Operand.tmp 24], argTypes := #[26] }, type := 36, pos := "exact.go:6087", after := #[{ on := 2, ground := Ground.data }, { on := 1, ground := Ground.chain }], guard := none }) rfl (fun K hK => ?_) AllReadyH.nil)
        · go_simp
          refine (KT1.out _ HR.out.st.1).mono ?_
          rintro e wn8 ⟨Zc1, Yc1, rfl, Ic, hb⟩
          have H2 := Lib.hid (HR.out.resV Ic hb)
          clear HR; have HR := H2; clear H2 hb
          clear HS; have HS := HR.out.st
          refine hK.out _ _ HS (fun _ => ?_)
          clear hK K
          try simp only [Act.put, List.setIfInBounds_toArray, List.set_cons_zero, List.set_cons_succ]
          refine wpAnyH_ready (rs := [4]) (by kernel_rfl) (by simp) ?_
          refine (AllReadyH.cons (o := { dst := some 26, op := Op.call { callee := Callee.value (Operand.func 10), args := #[Operand.tmp 23, Operand.tmp 25], argTypes := #[28, 36] }, type := 33, pos := "exact.go:6087", after := #[{ on := 1, ground := Ground.data }, { on := 3, ground := Ground.data }, { on := 3, ground := Ground.chain }], guard := none }) rfl (fun K hK => ?_) AllReadyH.nil)
          · go_simp
            refine (KW2.out _ _ _ (HR.out.v1) (HR.out.v2)).mono ?_
            rintro e wn9 ⟨Zr, Yr, Cr, Dr, rfl, Ir, hb⟩
            have H2 := Lib.hid ((HR.out.resM Ir hb).skip)
            clear HR; have HR := H2; clear H2 hb
            clear HS; have HS := HR.out.st
            refine hK.out _ _ HS (fun _ => ?_)
            clear hK K
            try simp only [Act.put, List.setIfInBounds_toArray, List.set_cons_zero, List.set_cons_succ]
            refine wpAnyH_take (i := 5) (oi := { dst := some 21, op := Op.move (Operand.tmp 26), type := 33, pos := "exact.go:6087", after := #[{ on := 4, ground := Ground.data }], guard := none }) (v := .tuple #[.agg #[.int .i64 tR, .int .i64 aR, .int .i64 uR, .slice Zr acR.length Cr, .slice Yr nxR.length Dr], .int .i64 q]) rfl (by kernel_rfl) (by kernel_rfl) (by kernel_rfl) (fun _ _ _ h => h) (Or.inl ⟨rfl, fun W hW => by (obtain ⟨_, y0_, y1_, y2_, y3_, _⟩ := hW; go_simp; try rfl)⟩) HS ?_
            try simp only [Act.put, List.setIfInBounds_toArray, List.set_cons_zero, List.set_cons_succ]
            refine wpAnyH_take (i := 6) (oi := { dst := some 27, op := Op.extract (Operand.tmp 21) 0, type := 32, pos := "exact.go:6087", after := #[{ on := 5, ground := Ground.data }], guard := none }) (v := .agg #[.int .i64 tR, .int .i64 aR, .int .i64 uR, .slice Zr acR.length Cr, .slice Yr nxR.length Dr]) rfl (by kernel_rfl) (by kernel_rfl) (by kernel_rfl) (fun _ _ _ h => h) (Or.inl ⟨rfl, fun W hW => by (obtain ⟨_, y0_, y1_, y2_, y3_, _⟩ := hW; go_simp; try rfl)⟩) HS ?_
            try simp only [Act.put, List.setIfInBounds_toArray, List.set_cons_zero, List.set_cons_succ]
            refine wpAnyH_take (i := 7) (oi := { dst := some 28, op := Op.extract (Operand.tmp 21) 1, type := 2, pos := "exact.go:6087", after := #[{ on := 5, ground := Ground.data }, { on := 9, ground := Ground.gcOnly Departure.lateStores }], guard := none }) (v := .int .i64 q) rfl (by kernel_rfl) (by kernel_rfl) (by kernel_rfl) (fun _ _ _ h => h) (Or.inl ⟨rfl, fun W hW => by (obtain ⟨_, y0_, y1_, y2_, y3_, _⟩ := hW; go_simp; try rfl)⟩) HS ?_
            try simp only [Act.put, List.setIfInBounds_toArray, List.set_cons_zero, List.set_cons_succ]
            obtain ⟨c0, c1, c2, c3, c4, g0, g1, g2, g3, g4⟩ := HR.out.facts5
            refine wpAnyH_ready (rs := [9]) (by kernel_rfl) (by simp) ?_
            refine AllReadyH.cons (o := { dst := none, op := Op.store 32 (Operand.tmp 6) (Operand.tmp 27), type := 0, pos := "exact.go:6087", after := #[{ on := 8, ground := Ground.data }, { on := 6, ground := Ground.data }, { on := 4, ground := Ground.chain }, { on := 0, ground := Ground.phase }, { on := 1, ground := Ground.phase }, { on := 2, ground := Ground.phase }, { on := 3, ground := Ground.phase }, { on := 4, ground := Ground.phase }, { on := 5, ground := Ground.phase }, { on := 6, ground := Ground.phase }, { on := 7, ground := Ground.textOnly Departure.lateStores }, { on := 8, ground := Ground.phase }], guard := none }) rfl (fun K hK => ?_) AllReadyH.nil
            go_simp
            have HS' : St w [(w.heap.size, 0, .int .i64 t0), (w.heap.size, 1, .int .i64 a0), (w.heap.size + 1, 0, .slice A1 p1.length C1), (w.heap.size + 1, 1, .slice B1 r1.length D1)] _ := (HR.out.fill5 (.int .i64 tR) (.int .i64 aR) (.int .i64 uR) (.slice Zr acR.length Cr) (.slice Yr nxR.length Dr)).st
            refine hK.out _ _ HS' (fun _ => ?_)
            clear hK K HS
            have HS := HS'; clear HS'
            try simp only [Act.put, List.setIfInBounds_toArray, List.set_cons_zero, List.set_cons_succ]
            refine wpAnyH_take (i := 10) (oi := { dst := some 7, op := Op.assign (Operand.tmp 28), type := 2, pos := "exact.go:6087", after := #[{ on := 7, ground := Ground.data }, { on := 9, ground := Ground.chain }, { on := 0, ground := Ground.phase }, { on := 1, ground := Ground.phase }, { on := 2, ground := Ground.phase }, { on := 3, ground := Ground.phase }, { on := 4, ground := Ground.phase }, { on := 5, ground := Ground.phase }, { on := 6, ground := Ground.phase }, { on := 7, ground := Ground.phase }, { on := 8, ground := Ground.phase }, { on := 9, ground := Ground.phase }], guard := none }) (v := .int .i64 q) rfl (by kernel_rfl) (by kernel_rfl) (by kernel_rfl) (fun _ _ _ h => h) (Or.inl ⟨rfl, fun W hW => by (obtain ⟨_, y0_, y1_, y2_, y3_, _⟩ := hW; go_simp; try rfl)⟩) HS ?_
            try simp only [Act.put, List.setIfInBounds_toArray, List.set_cons_zero, List.set_cons_succ]
            refine wpAnyH_done (by kernel_rfl) ?_ _
            clear HS
            go_wp2_with fail
            go_meet
            exact ⟨_, _, _, _, _, _, _, rfl, rfl, HR.out.done5 _ _ _ _ _⟩
    · go_simp
      have H2 := HR.out.boxed #[.int .i64 0, .int .i64 0, .int .i64 0, .slice none 0 0, .slice none 0 0] 32
      obtain ⟨wn10, ewn⟩ : ∃ W, W = World.alloc w20 (.cells #[.int .i64 0, .int .i64 0, .int .i64 0, .slice none 0 0, .slice none 0 0] 32 (0, 0)) := ⟨_, rfl⟩
      obtain ⟨wn10b, ebn⟩ : ∃ n, n = w20.heap.size := ⟨_, rfl⟩
      rw [← ewn, ← ebn] at H2 ⊢
      clear HR ewn ebn; have HR := Lib.hid H2; clear H2
      clear HS; have HS := HR.out.st
      refine hK.out _ _ HS (fun _ => ?_)
      clear hK K
      try simp only [Act.put, List.setIfInBounds_toArray, List.set_cons_zero, List.set_cons_succ]
      refine wpAnyH_ready (rs := [1]) (by kernel_rfl) (by simp) ?_
      refine (AllReadyH.cons (o := { dst := some 23, op := Op.call { callee := Callee.value (Operand.func 11), args := #[Operand.tmp 22], argTypes := #[23] }, type := 28, pos := "exact.go:6087", after := #[{ on := 0, ground := Ground.data }], guard := none }) rfl (fun K hK => ?_) AllReadyH.nil)
      · go_simp
        refine (KT0.out _ HR.out.st.1).mono ?_
        rintro e wn11 ⟨rfl, hb⟩
        have H2 := Lib.hid (HR.out.below hb)
        clear HR; have HR := H2; clear H2 hb
        clear HS; have HS := HR.out.st
        refine hK.out _ _ HS (fun _ => ?_)
        clear hK K
        try simp only [Act.put, List.setIfInBounds_toArray, List.set_cons_zero, List.set_cons_succ]
        refine wpAnyH_ready (rs := [3]) (by kernel_rfl) (by simp) ?_
        refine (AllReadyH.cons (o := { dst := some 25, op := Op.call { callee := Callee.value (Operand.func 12), args := #[Operand.tmp 24], argTypes := #[26] }, type := 36, pos := "exact.go:6087", after := #[{ on := 2, ground := Ground.data }, { on := 1, ground := Ground.chain }], guard := none }) rfl (fun K hK => ?_) AllReadyH.nil)
        · go_simp
          refine (KT1.out _ HR.out.st.1).mono ?_
          rintro e wn12 ⟨Zc1, Yc1, rfl, Ic, hb⟩
          have H2 := Lib.hid (HR.out.resV Ic hb)
          clear HR; have HR := H2; clear H2 hb
          clear HS; have HS := HR.out.st
          refine hK.out _ _ HS (fun _ => ?_)
          clear hK K
          try simp only [Act.put, List.setIfInBounds_toArray, List.set_cons_zero, List.set_cons_succ]
          refine wpAnyH_ready (rs := [4]) (by kernel_rfl) (by simp) ?_
          refine (AllReadyH.cons (o := { dst := some 26, op := Op.call { callee := Callee.value (Operand.func 10), args := #[Operand.tmp 23, Operand.tmp 25], argTypes := #[28, 36] }, type := 33, pos := "exact.go:6087", after := #[{ on := 1, ground := Ground.data }, { on := 3, ground := Ground.data }, { on := 3, ground := Ground.chain }], guard := none }) rfl (fun K hK => ?_) AllReadyH.nil)
          · go_simp
            refine (KW2.out _ _ _ (HR.out.v1) (HR.out.v2)).mono ?_
            rintro e wn13 ⟨Zr, Yr, Cr, Dr, rfl, Ir, hb⟩
            have H2 := Lib.hid ((HR.out.resM Ir hb).skip)
            clear HR; have HR := H2; clear H2 hb
            clear HS; have HS := HR.out.st
            refine hK.out _ _ HS (fun _ => ?_)
            clear hK K
            try simp only [Act.put, List.setIfInBounds_toArray, List.set_cons_zero, List.set_cons_succ]
            refine wpAnyH_take (i := 5) (oi := { dst := some 21, op := Op.move (Operand.tmp 26), type := 33, pos := "exact.go:6087", after := #[{ on := 4, ground := Ground.data }], guard := none }) (v := .tuple #[.agg #[.int .i64 tR, .int .i64 aR, .int .i64 uR, .slice Zr acR.length Cr, .slice Yr nxR.length Dr], .int .i64 q]) rfl (by kernel_rfl) (by kernel_rfl) (by kernel_rfl) (fun _ _ _ h => h) (Or.inl ⟨rfl, fun W hW => by (obtain ⟨_, y0_, y1_, y2_, y3_, _⟩ := hW; go_simp; try rfl)⟩) HS ?_
            try simp only [Act.put, List.setIfInBounds_toArray, List.set_cons_zero, List.set_cons_succ]
            refine wpAnyH_take (i := 6) (oi := { dst := some 27, op := Op.extract (Operand.tmp 21) 0, type := 32, pos := "exact.go:6087", after := #[{ on := 5, ground := Ground.data }], guard := none }) (v := .agg #[.int .i64 tR, .int .i64 aR, .int .i64 uR, .slice Zr acR.length Cr, .slice Yr nxR.length Dr]) rfl (by kernel_rfl) (by kernel_rfl) (by kernel_rfl) (fun _ _ _ h => h) (Or.inl ⟨rfl, fun W hW => by (obtain ⟨_, y0_, y1_, y2_, y3_, _⟩ := hW; go_simp; try rfl)⟩) HS ?_
            try simp only [Act.put, List.setIfInBounds_toArray, List.set_cons_zero, List.set_cons_succ]
            refine wpAnyH_take (i := 7) (oi := { dst := some 28, op := Op.extract (Operand.tmp 21) 1, type := 2, pos := "exact.go:6087", after := #[{ on := 5, ground := Ground.data }, { on := 9, ground := Ground.gcOnly Departure.lateStores }], guard := none }) (v := .int .i64 q) rfl (by kernel_rfl) (by kernel_rfl) (by kernel_rfl) (fun _ _ _ h => h) (Or.inl ⟨rfl, fun W hW => by (obtain ⟨_, y0_, y1_, y2_, y3_, _⟩ := hW; go_simp; try rfl)⟩) HS ?_
            try simp only [Act.put, List.setIfInBounds_toArray, List.set_cons_zero, List.set_cons_succ]
            obtain ⟨c0, c1, c2, c3, c4, g0, g1, g2, g3, g4⟩ := HR.out.facts5
            refine wpAnyH_ready (rs := [9]) (by kernel_rfl) (by simp) ?_
            refine AllReadyH.cons (o := { dst := none, op := Op.store 32 (Operand.tmp 6) (Operand.tmp 27), type := 0, pos := "exact.go:6087", after := #[{ on := 8, ground := Ground.data }, { on := 6, ground := Ground.data }, { on := 4, ground := Ground.chain }, { on := 0, ground := Ground.phase }, { on := 1, ground := Ground.phase }, { on := 2, ground := Ground.phase }, { on := 3, ground := Ground.phase }, { on := 4, ground := Ground.phase }, { on := 5, ground := Ground.phase }, { on := 6, ground := Ground.phase }, { on := 7, ground := Ground.textOnly Departure.lateStores }, { on := 8, ground := Ground.phase }], guard := none }) rfl (fun K hK => ?_) AllReadyH.nil
            go_simp
            have HS' : St w [(w.heap.size, 0, .int .i64 t0), (w.heap.size, 1, .int .i64 a0), (w.heap.size + 1, 0, .slice A1 p1.length C1), (w.heap.size + 1, 1, .slice B1 r1.length D1)] _ := (HR.out.fill5 (.int .i64 tR) (.int .i64 aR) (.int .i64 uR) (.slice Zr acR.length Cr) (.slice Yr nxR.length Dr)).st
            refine hK.out _ _ HS' (fun _ => ?_)
            clear hK K HS
            have HS := HS'; clear HS'
            try simp only [Act.put, List.setIfInBounds_toArray, List.set_cons_zero, List.set_cons_succ]
            refine wpAnyH_take (i := 10) (oi := { dst := some 7, op := Op.assign (Operand.tmp 28), type := 2, pos := "exact.go:6087", after := #[{ on := 7, ground := Ground.data }, { on := 9, ground := Ground.chain }, { on := 0, ground := Ground.phase }, { on := 1, ground := Ground.phase }, { on := 2, ground := Ground.phase }, { on := 3, ground := Ground.phase }, { on := 4, ground := Ground.phase }, { on := 5, ground := Ground.phase }, { on := 6, ground := Ground.phase }, { on := 7, ground := Ground.phase }, { on := 8, ground := Ground.phase }, { on := 9, ground := Ground.phase }], guard := none }) (v := .int .i64 q) rfl (by kernel_rfl) (by kernel_rfl) (by kernel_rfl) (fun _ _ _ h => h) (Or.inl ⟨rfl, fun W hW => by (obtain ⟨_, y0_, y1_, y2_, y3_, _⟩ := hW; go_simp; try rfl)⟩) HS ?_
            try simp only [Act.put, List.setIfInBounds_toArray, List.set_cons_zero, List.set_cons_succ]
            refine wpAnyH_done (by kernel_rfl) ?_ _
            clear HS
            go_wp2_with fail
            go_meet
            exact ⟨_, _, _, _, _, _, _, rfl, rfl, HR.out.done5 _ _ _ _ _⟩
  case rest =>
  obtain ⟨bq1, loq1, hiq1, Zq1, Yq1, Cq1, Dq1, rfl, rfl, T⟩ := hcut
  clear x0 x1 x2 x3 x4
  clear HR; have HR := Lib.hid T; clear T
  obtain ⟨x0, x1, x2, x3, x4, x5, x6, x7, x8, x9, _⟩ := HR.out.st
  go_wp2_with fail
  refine (KT1.out _ x0).mono ?_
  rintro e wd1 ⟨Zd1, Yd1, rfl, Id1, hbd⟩
  have T := ((HR.out.resV Id1 hbd).boxed #[.slice Zd1 p1.length p1.length, .slice Yd1 r1.length r1.length] 36).open2
  clear x0 x1 x2 x3 x4 x5 x6 x7 x8 x9
  have HR' : Hid (∃ lo hi, Gs w [(wd1.heap.size, 0, .slice Zd1 p1.length p1.length), (wd1.heap.size, 1, .slice Yd1 r1.length r1.length), (bq1, 0, .int .i64 tR), (bq1, 1, .int .i64 aR), (bq1, 2, .int .i64 uR), (bq1, 3, .slice Zq1 acR.length Cq1), (bq1, 4, .slice Yq1 nxR.length Dq1), (w.heap.size, 0, .int .i64 t0), (w.heap.size, 1, .int .i64 a0), (w.heap.size + 1, 0, .slice A1 p1.length C1), (w.heap.size + 1, 1, .slice B1 r1.length D1)] (ownV p1 r1 lo hi Zd1 Yd1 :: [ownM acR nxR loq1 hiq1 Zq1 Yq1]) _) := ⟨_, _, T⟩
  obtain ⟨lod1, hid1, T2⟩ := HR'.out
  clear HR HR' T Id1 hbd; have HR := Lib.hid T2; clear T2
  obtain ⟨x0, x1, x2, x3, x4, x5, x6, x7, x8, x9, x10, x11, _⟩ := HR.out.st
  go_wp2_with fail
  go_cut [9, 10] (fun sp sc wx => ∃ (bq3 loq3 hiq3 : Nat) (Zq3 Yq3 : Option Addr) (Cq3 Dq3 : Nat), sp = .pointer (some ⟨bq3, 0, none⟩) ∧ sc = .int .i64 q ∧ Gs w [(bq3, 0, .int .i64 tR), (bq3, 1, .int .i64 aR), (bq3, 2, .int .i64 uR), (bq3, 3, .slice Zq3 acR.length Cq3), (bq3, 4, .slice Yq3 nxR.length Dq3), (wd1.heap.size, 0, .slice Zd1 p1.length p1.length), (wd1.heap.size, 1, .slice Yd1 r1.length r1.length), (bq1, 0, .int .i64 tR), (bq1, 1, .int .i64 aR), (bq1, 2, .int .i64 uR), (bq1, 3, .slice Zq1 acR.length Cq1), (bq1, 4, .slice Yq1 nxR.length Dq1), (w.heap.size, 0, .int .i64 t0), (w.heap.size, 1, .int .i64 a0), (w.heap.size + 1, 0, .slice A1 p1.length C1), (w.heap.size + 1, 1, .slice B1 r1.length D1)] (ownM acR nxR loq3 hiq3 Zq3 Yq3 :: [ownV p1 r1 lod1 hid1 Zd1 Yd1, ownM acR nxR loq1 hiq1 Zq1 Yq1]) wx)
  case first =>
    clear x0 x1 x2 x3 x4 x5 x6 x7 x8 x9 x10 x11
    refine wp_region_held_drew (S := fun w' => St w [(wd1.heap.size, 0, .slice Zd1 p1.length p1.length), (wd1.heap.size, 1, .slice Yd1 r1.length r1.length), (bq1, 0, .int .i64 tR), (bq1, 1, .int .i64 aR), (bq1, 2, .int .i64 uR), (bq1, 3, .slice Zq1 acR.length Cq1), (bq1, 4, .slice Yq1 nxR.length Dq1), (w.heap.size, 0, .int .i64 t0), (w.heap.size, 1, .int .i64 a0), (w.heap.size + 1, 0, .slice A1 p1.length C1), (w.heap.size + 1, 1, .slice B1 r1.length D1)] w') (by kernel_rfl) HR.out.drew.st (fun HS => ?_)
    obtain ⟨w20, ew20⟩ : ∃ wn, wn = _ := ⟨_, rfl⟩
    have G0 : Hid (Gs w [(wd1.heap.size, 0, .slice Zd1 p1.length p1.length), (wd1.heap.size, 1, .slice Yd1 r1.length r1.length), (bq1, 0, .int .i64 tR), (bq1, 1, .int .i64 aR), (bq1, 2, .int .i64 uR), (bq1, 3, .slice Zq1 acR.length Cq1), (bq1, 4, .slice Yq1 nxR.length Dq1), (w.heap.size, 0, .int .i64 t0), (w.heap.size, 1, .int .i64 a0), (w.heap.size + 1, 0, .slice A1 p1.length C1), (w.heap.size + 1, 1, .slice B1 r1.length D1)] [ownV p1 r1 lod1 hid1 Zd1 Yd1, ownM acR nxR loq1 hiq1 Zq1 Yq1] w20) := by rw [ew20]; exact HR.out.drew
    rw [← ew20] at HS ⊢
    clear ew20 HR
    have HR := G0; clear G0
    refine wpAnyH_take (i := 0) (oi := { dst := some 32, op := Op.load 23 (Operand.tmp 2), type := 23, pos := "exact.go:6089", after := #[], guard := none }) (v := .agg #[.int .i64 t0, .int .i64 a0]) rfl (by kernel_rfl) (by kernel_rfl) (by kernel_rfl) (fun _ _ _ h => h) (Or.inl ⟨rfl, fun W hW => by (obtain ⟨_, y0_, y1_, y2_, y3_, y4_, y5_, y6_, y7_, y8_, y9_, y10_, _⟩ := hW; go_simp; try rfl)⟩) HS ?_
    try simp only [Act.put, List.setIfInBounds_toArray, List.set_cons_zero, List.set_cons_succ]
    refine wpAnyH_take (i := 2) (oi := { dst := some 34, op := Op.load 36 (Operand.tmp 8), type := 36, pos := "exact.go:6089", after := #[], guard := none }) (v := .agg #[.slice Zd1 p1.length p1.length, .slice Yd1 r1.length r1.length]) rfl (by kernel_rfl) (by kernel_rfl) (by kernel_rfl) (fun _ _ _ h => h) (Or.inl ⟨rfl, fun W hW => by (obtain ⟨_, y0_, y1_, y2_, y3_, y4_, y5_, y6_, y7_, y8_, y9_, y10_, _⟩ := hW; go_simp; try rfl)⟩) HS ?_
    try simp only [Act.put, List.setIfInBounds_toArray, List.set_cons_zero, List.set_cons_succ]
    refine wpAnyH_ready (rs := [1, 7]) (by kernel_rfl) (by simp) ?_
    refine (AllReadyH.cons (o := { dst := some 33, op := Op.call { callee := Callee.value (Operand.func 11), args := #[Operand.tmp 32], argTypes := #[23] }, type := 28, pos := "exact.go:6089", after := #[{ on := 0, ground := Ground.data }], guard := none }) rfl (fun K hK => ?_) (AllReadyH.cons (o := { dst := some 9, op := Op.alloc 32, type := 0, pos := "exact.go:6089", after := #[], guard := none }) rfl (fun K hK => ?_) AllReadyH.nil))
    · go_simp
      refine (KT0.out _ HR.out.st.1).mono ?_
      rintro e wn1 ⟨rfl, hb⟩
      have H2 := Lib.hid (HR.out.below hb)
      clear HR; have HR := H2; clear H2 hb
      clear HS; have HS := HR.out.st
      refine hK.out _ _ HS (fun _ => ?_)
      clear hK K
      try simp only [Act.put, List.setIfInBounds_toArray, List.set_cons_zero, List.set_cons_succ]
      refine wpAnyH_ready (rs := [3, 7]) (by kernel_rfl) (by simp) ?_
      refine (AllReadyH.cons (o := { dst := some 35, op := Op.call { callee := Callee.value (Operand.func 13), args := #[Operand.tmp 33, Operand.tmp 34], argTypes := #[28, 36] }, type := 33, pos := "exact.go:6089", after := #[{ on := 1, ground := Ground.data }, { on := 2, ground := Ground.data }, { on := 1, ground := Ground.chain }], guard := none }) rfl (fun K hK => ?_) (AllReadyH.cons (o := { dst := some 9, op := Op.alloc 32, type := 0, pos := "exact.go:6089", after := #[], guard := none }) rfl (fun K hK => ?_) AllReadyH.nil))
      · go_simp
        refine (KG2.out _ _ _ (HR.out.v1) (HR.out.v2)).mono ?_
        rintro e wn2 ⟨Zr, Yr, Cr, Dr, rfl, Ir, hb⟩
        have H2 := Lib.hid ((HR.out.resM Ir hb))
        clear HR; have HR := H2; clear H2 hb
        clear HS; have HS := HR.out.st
        refine hK.out _ _ HS (fun _ => ?_)
        clear hK K
        try simp only [Act.put, List.setIfInBounds_toArray, List.set_cons_zero, List.set_cons_succ]
        refine wpAnyH_take (i := 4) (oi := { dst := some 31, op := Op.move (Operand.tmp 35), type := 33, pos := "exact.go:6089", after := #[{ on := 3, ground := Ground.data }], guard := none }) (v := .tuple #[.agg #[.int .i64 tR, .int .i64 aR, .int .i64 uR, .slice Zr acR.length Cr, .slice Yr nxR.length Dr], .int .i64 q]) rfl (by kernel_rfl) (by kernel_rfl) (by kernel_rfl) (fun _ _ _ h => h) (Or.inl ⟨rfl, fun W hW => by (obtain ⟨_, y0_, y1_, y2_, y3_, y4_, y5_, y6_, y7_, y8_, y9_, y10_, _⟩ := hW; go_simp; try rfl)⟩) HS ?_
        try simp only [Act.put, List.setIfInBounds_toArray, List.set_cons_zero, List.set_cons_succ]
        refine wpAnyH_take (i := 5) (oi := { dst := some 36, op := Op.extract (Operand.tmp 31) 0, type := 32, pos := "exact.go:6089", after := #[{ on := 4, ground := Ground.data }], guard := none }) (v := .agg #[.int .i64 tR, .int .i64 aR, .int .i64 uR, .slice Zr acR.length Cr, .slice Yr nxR.length Dr]) rfl (by kernel_rfl) (by kernel_rfl) (by kernel_rfl) (fun _ _ _ h => h) (Or.inl ⟨rfl, fun W hW => by (obtain ⟨_, y0_, y1_, y2_, y3_, y4_, y5_, y6_, y7_, y8_, y9_, y10_, _⟩ := hW; go_simp; try rfl)⟩) HS ?_
        try simp only [Act.put, List.setIfInBounds_toArray, List.set_cons_zero, List.set_cons_succ]
        refine wpAnyH_take (i := 6) (oi := { dst := some 37, op := Op.extract (Operand.tmp 31) 1, type := 2, pos := "exact.go:6089", after := #[{ on := 4, ground := Ground.data }, { on := 8, ground := Ground.gcOnly Departure.lateStores }], guard := none }) (v := .int .i64 q) rfl (by kernel_rfl) (by kernel_rfl) (by kernel_rfl) (fun _ _ _ h => h) (Or.inl ⟨rfl, fun W hW => by (obtain ⟨_, y0_, y1_, y2_, y3_, y4_, y5_, y6_, y7_, y8_, y9_, y10_, _⟩ := hW; go_simp; try rfl)⟩) HS ?_
        try simp only [Act.put, List.setIfInBounds_toArray, List.set_cons_zero, List.set_cons_succ]
        refine wpAnyH_ready (rs := [7]) (by kernel_rfl) (by simp) ?_
        refine (AllReadyH.cons (o := { dst := some 9, op := Op.alloc 32, type := 0, pos := "exact.go:6089", after := #[], guard := none }) rfl (fun K hK => ?_) AllReadyH.nil)
        · go_simp
          have H2 := HR.out.boxed #[.int .i64 0, .int .i64 0, .int .i64 0, .slice none 0 0, .slice none 0 0] 32
          obtain ⟨wn3, ewn⟩ : ∃ W, W = World.alloc wn2 (.cells #[.int .i64 0, .int .i64 0, .int .i64 0, .slice none 0 0, .slice none 0 0] 32 (0, 0)) := ⟨_, rfl⟩
          obtain ⟨wn3b, ebn⟩ : ∃ n, n = wn2.heap.size := ⟨_, rfl⟩
          rw [← ewn, ← ebn] at H2 ⊢
          clear HR ewn ebn; have HR := Lib.hid H2; clear H2
          clear HS; have HS := HR.out.st
          refine hK.out _ _ HS (fun _ => ?_)
          clear hK K
          try simp only [Act.put, List.setIfInBounds_toArray, List.set_cons_zero, List.set_cons_succ]
          obtain ⟨c0, c1, c2, c3, c4, g0, g1, g2, g3, g4⟩ := HR.out.facts5
          refine wpAnyH_ready (rs := [8]) (by kernel_rfl) (by simp) ?_
          refine AllReadyH.cons (o := { dst := none, op := Op.store 32 (Operand.tmp 9) (Operand.tmp 36), type := 0, pos := "exact.go:6089", after := #[{ on := 7, ground := Ground.data }, { on := 5, ground := Ground.data }, { on := 3, ground := Ground.chain }, { on := 0, ground := Ground.phase }, { on := 1, ground := Ground.phase }, { on := 2, ground := Ground.phase }, { on := 3, ground := Ground.phase }, { on := 4, ground := Ground.phase }, { on := 5, ground := Ground.phase }, { on := 6, ground := Ground.textOnly Departure.lateStores }, { on := 7, ground := Ground.phase }], guard := none }) rfl (fun K hK => ?_) AllReadyH.nil
          go_simp
          have HS' : St w [(wd1.heap.size, 0, .slice Zd1 p1.length p1.length), (wd1.heap.size, 1, .slice Yd1 r1.length r1.length), (bq1, 0, .int .i64 tR), (bq1, 1, .int .i64 aR), (bq1, 2, .int .i64 uR), (bq1, 3, .slice Zq1 acR.length Cq1), (bq1, 4, .slice Yq1 nxR.length Dq1), (w.heap.size, 0, .int .i64 t0), (w.heap.size, 1, .int .i64 a0), (w.heap.size + 1, 0, .slice A1 p1.length C1), (w.heap.size + 1, 1, .slice B1 r1.length D1)] _ := (HR.out.fill5 (.int .i64 tR) (.int .i64 aR) (.int .i64 uR) (.slice Zr acR.length Cr) (.slice Yr nxR.length Dr)).st
          refine hK.out _ _ HS' (fun _ => ?_)
          clear hK K HS
          have HS := HS'; clear HS'
          try simp only [Act.put, List.setIfInBounds_toArray, List.set_cons_zero, List.set_cons_succ]
          refine wpAnyH_take (i := 9) (oi := { dst := some 10, op := Op.assign (Operand.tmp 37), type := 2, pos := "exact.go:6089", after := #[{ on := 6, ground := Ground.data }, { on := 8, ground := Ground.chain }, { on := 0, ground := Ground.phase }, { on := 1, ground := Ground.phase }, { on := 2, ground := Ground.phase }, { on := 3, ground := Ground.phase }, { on := 4, ground := Ground.phase }, { on := 5, ground := Ground.phase }, { on := 6, ground := Ground.phase }, { on := 7, ground := Ground.phase }, { on := 8, ground := Ground.phase }], guard := none }) (v := .int .i64 q) rfl (by kernel_rfl) (by kernel_rfl) (by kernel_rfl) (fun _ _ _ h => h) (Or.inl ⟨rfl, fun W hW => by (obtain ⟨_, y0_, y1_, y2_, y3_, y4_, y5_, y6_, y7_, y8_, y9_, y10_, _⟩ := hW; go_simp; try rfl)⟩) HS ?_
          try simp only [Act.put, List.setIfInBounds_toArray, List.set_cons_zero, List.set_cons_succ]
          refine wpAnyH_done (by kernel_rfl) ?_ _
          clear HS
          go_wp2_with fail
          go_meet
          exact ⟨_, _, _, _, _, _, _, rfl, rfl, HR.out.done5 _ _ _ _ _⟩
      · go_simp
        have H2 := HR.out.boxed #[.int .i64 0, .int .i64 0, .int .i64 0, .slice none 0 0, .slice none 0 0] 32
        obtain ⟨wn4, ewn⟩ : ∃ W, W = World.alloc wn1 (.cells #[.int .i64 0, .int .i64 0, .int .i64 0, .slice none 0 0, .slice none 0 0] 32 (0, 0)) := ⟨_, rfl⟩
        obtain ⟨wn4b, ebn⟩ : ∃ n, n = wn1.heap.size := ⟨_, rfl⟩
        rw [← ewn, ← ebn] at H2 ⊢
        clear HR ewn ebn; have HR := Lib.hid H2; clear H2
        clear HS; have HS := HR.out.st
        refine hK.out _ _ HS (fun _ => ?_)
        clear hK K
        try simp only [Act.put, List.setIfInBounds_toArray, List.set_cons_zero, List.set_cons_succ]
        refine wpAnyH_ready (rs := [3]) (by kernel_rfl) (by simp) ?_
        refine (AllReadyH.cons (o := { dst := some 35, op := Op.call { callee := Callee.value (Operand.func 13), args := #[Operand.tmp 33, Operand.tmp 34], argTypes := #[28, 36] }, type := 33, pos := "exact.go:6089", after := #[{ on := 1, ground := Ground.data }, { on := 2, ground := Ground.data }, { on := 1, ground := Ground.chain }], guard := none }) rfl (fun K hK => ?_) AllReadyH.nil)
        · go_simp
          refine (KG2.out _ _ _ (HR.out.v1) (HR.out.v2)).mono ?_
          rintro e wn5 ⟨Zr, Yr, Cr, Dr, rfl, Ir, hb⟩
          have H2 := Lib.hid ((HR.out.resM Ir hb))
          clear HR; have HR := H2; clear H2 hb
          clear HS; have HS := HR.out.st
          refine hK.out _ _ HS (fun _ => ?_)
          clear hK K
          try simp only [Act.put, List.setIfInBounds_toArray, List.set_cons_zero, List.set_cons_succ]
          refine wpAnyH_take (i := 4) (oi := { dst := some 31, op := Op.move (Operand.tmp 35), type := 33, pos := "exact.go:6089", after := #[{ on := 3, ground := Ground.data }], guard := none }) (v := .tuple #[.agg #[.int .i64 tR, .int .i64 aR, .int .i64 uR, .slice Zr acR.length Cr, .slice Yr nxR.length Dr], .int .i64 q]) rfl (by kernel_rfl) (by kernel_rfl) (by kernel_rfl) (fun _ _ _ h => h) (Or.inl ⟨rfl, fun W hW => by (obtain ⟨_, y0_, y1_, y2_, y3_, y4_, y5_, y6_, y7_, y8_, y9_, y10_, _⟩ := hW; go_simp; try rfl)⟩) HS ?_
          try simp only [Act.put, List.setIfInBounds_toArray, List.set_cons_zero, List.set_cons_succ]
          refine wpAnyH_take (i := 5) (oi := { dst := some 36, op := Op.extract (Operand.tmp 31) 0, type := 32, pos := "exact.go:6089", after := #[{ on := 4, ground := Ground.data }], guard := none }) (v := .agg #[.int .i64 tR, .int .i64 aR, .int .i64 uR, .slice Zr acR.length Cr, .slice Yr nxR.length Dr]) rfl (by kernel_rfl) (by kernel_rfl) (by kernel_rfl) (fun _ _ _ h => h) (Or.inl ⟨rfl, fun W hW => by (obtain ⟨_, y0_, y1_, y2_, y3_, y4_, y5_, y6_, y7_, y8_, y9_, y10_, _⟩ := hW; go_simp; try rfl)⟩) HS ?_
          try simp only [Act.put, List.setIfInBounds_toArray, List.set_cons_zero, List.set_cons_succ]
          refine wpAnyH_take (i := 6) (oi := { dst := some 37, op := Op.extract (Operand.tmp 31) 1, type := 2, pos := "exact.go:6089", after := #[{ on := 4, ground := Ground.data }, { on := 8, ground := Ground.gcOnly Departure.lateStores }], guard := none }) (v := .int .i64 q) rfl (by kernel_rfl) (by kernel_rfl) (by kernel_rfl) (fun _ _ _ h => h) (Or.inl ⟨rfl, fun W hW => by (obtain ⟨_, y0_, y1_, y2_, y3_, y4_, y5_, y6_, y7_, y8_, y9_, y10_, _⟩ := hW; go_simp; try rfl)⟩) HS ?_
          try simp only [Act.put, List.setIfInBounds_toArray, List.set_cons_zero, List.set_cons_succ]
          obtain ⟨c0, c1, c2, c3, c4, g0, g1, g2, g3, g4⟩ := HR.out.facts5
          refine wpAnyH_ready (rs := [8]) (by kernel_rfl) (by simp) ?_
          refine AllReadyH.cons (o := { dst := none, op := Op.store 32 (Operand.tmp 9) (Operand.tmp 36), type := 0, pos := "exact.go:6089", after := #[{ on := 7, ground := Ground.data }, { on := 5, ground := Ground.data }, { on := 3, ground := Ground.chain }, { on := 0, ground := Ground.phase }, { on := 1, ground := Ground.phase }, { on := 2, ground := Ground.phase }, { on := 3, ground := Ground.phase }, { on := 4, ground := Ground.phase }, { on := 5, ground := Ground.phase }, { on := 6, ground := Ground.textOnly Departure.lateStores }, { on := 7, ground := Ground.phase }], guard := none }) rfl (fun K hK => ?_) AllReadyH.nil
          go_simp
          have HS' : St w [(wd1.heap.size, 0, .slice Zd1 p1.length p1.length), (wd1.heap.size, 1, .slice Yd1 r1.length r1.length), (bq1, 0, .int .i64 tR), (bq1, 1, .int .i64 aR), (bq1, 2, .int .i64 uR), (bq1, 3, .slice Zq1 acR.length Cq1), (bq1, 4, .slice Yq1 nxR.length Dq1), (w.heap.size, 0, .int .i64 t0), (w.heap.size, 1, .int .i64 a0), (w.heap.size + 1, 0, .slice A1 p1.length C1), (w.heap.size + 1, 1, .slice B1 r1.length D1)] _ := (HR.out.fill5 (.int .i64 tR) (.int .i64 aR) (.int .i64 uR) (.slice Zr acR.length Cr) (.slice Yr nxR.length Dr)).st
          refine hK.out _ _ HS' (fun _ => ?_)
          clear hK K HS
          have HS := HS'; clear HS'
          try simp only [Act.put, List.setIfInBounds_toArray, List.set_cons_zero, List.set_cons_succ]
          refine wpAnyH_take (i := 9) (oi := { dst := some 10, op := Op.assign (Operand.tmp 37), type := 2, pos := "exact.go:6089", after := #[{ on := 6, ground := Ground.data }, { on := 8, ground := Ground.chain }, { on := 0, ground := Ground.phase }, { on := 1, ground := Ground.phase }, { on := 2, ground := Ground.phase }, { on := 3, ground := Ground.phase }, { on := 4, ground := Ground.phase }, { on := 5, ground := Ground.phase }, { on := 6, ground := Ground.phase }, { on := 7, ground := Ground.phase }, { on := 8, ground := Ground.phase }], guard := none }) (v := .int .i64 q) rfl (by kernel_rfl) (by kernel_rfl) (by kernel_rfl) (fun _ _ _ h => h) (Or.inl ⟨rfl, fun W hW => by (obtain ⟨_, y0_, y1_, y2_, y3_, y4_, y5_, y6_, y7_, y8_, y9_, y10_, _⟩ := hW; go_simp; try rfl)⟩) HS ?_
          try simp only [Act.put, List.setIfInBounds_toArray, List.set_cons_zero, List.set_cons_succ]
          refine wpAnyH_done (by kernel_rfl) ?_ _
          clear HS
          go_wp2_with fail
          go_meet
          exact ⟨_, _, _, _, _, _, _, rfl, rfl, HR.out.done5 _ _ _ _ _⟩
    · go_simp
      have H2 := HR.out.boxed #[.int .i64 0, .int .i64 0, .int .i64 0, .slice none 0 0, .slice none 0 0] 32
      obtain ⟨wn6, ewn⟩ : ∃ W, W = World.alloc w20 (.cells #[.int .i64 0, .int .i64 0, .int .i64 0, .slice none 0 0, .slice none 0 0] 32 (0, 0)) := ⟨_, rfl⟩
      obtain ⟨wn6b, ebn⟩ : ∃ n, n = w20.heap.size := ⟨_, rfl⟩
      rw [← ewn, ← ebn] at H2 ⊢
      clear HR ewn ebn; have HR := Lib.hid H2; clear H2
      clear HS; have HS := HR.out.st
      refine hK.out _ _ HS (fun _ => ?_)
      clear hK K
      try simp only [Act.put, List.setIfInBounds_toArray, List.set_cons_zero, List.set_cons_succ]
      refine wpAnyH_ready (rs := [1]) (by kernel_rfl) (by simp) ?_
      refine (AllReadyH.cons (o := { dst := some 33, op := Op.call { callee := Callee.value (Operand.func 11), args := #[Operand.tmp 32], argTypes := #[23] }, type := 28, pos := "exact.go:6089", after := #[{ on := 0, ground := Ground.data }], guard := none }) rfl (fun K hK => ?_) AllReadyH.nil)
      · go_simp
        refine (KT0.out _ HR.out.st.1).mono ?_
        rintro e wn7 ⟨rfl, hb⟩
        have H2 := Lib.hid (HR.out.below hb)
        clear HR; have HR := H2; clear H2 hb
        clear HS; have HS := HR.out.st
        refine hK.out _ _ HS (fun _ => ?_)
        clear hK K
        try simp only [Act.put, List.setIfInBounds_toArray, List.set_cons_zero, List.set_cons_succ]
        refine wpAnyH_ready (rs := [3]) (by kernel_rfl) (by simp) ?_
        refine (AllReadyH.cons (o := { dst := some 35, op := Op.call { callee := Callee.value (Operand.func 13), args := #[Operand.tmp 33, Operand.tmp 34], argTypes := #[28, 36] }, type := 33, pos := "exact.go:6089", after := #[{ on := 1, ground := Ground.data }, { on := 2, ground := Ground.data }, { on := 1, ground := Ground.chain }], guard := none }) rfl (fun K hK => ?_) AllReadyH.nil)
        · go_simp
          refine (KG2.out _ _ _ (HR.out.v1) (HR.out.v2)).mono ?_
          rintro e wn8 ⟨Zr, Yr, Cr, Dr, rfl, Ir, hb⟩
          have H2 := Lib.hid ((HR.out.resM Ir hb))
          clear HR; have HR := H2; clear H2 hb
          clear HS; have HS := HR.out.st
          refine hK.out _ _ HS (fun _ => ?_)
          clear hK K
          try simp only [Act.put, List.setIfInBounds_toArray, List.set_cons_zero, List.set_cons_succ]
          refine wpAnyH_take (i := 4) (oi := { dst := some 31, op := Op.move (Operand.tmp 35), type := 33, pos := "exact.go:6089", after := #[{ on := 3, ground := Ground.data }], guard := none }) (v := .tuple #[.agg #[.int .i64 tR, .int .i64 aR, .int .i64 uR, .slice Zr acR.length Cr, .slice Yr nxR.length Dr], .int .i64 q]) rfl (by kernel_rfl) (by kernel_rfl) (by kernel_rfl) (fun _ _ _ h => h) (Or.inl ⟨rfl, fun W hW => by (obtain ⟨_, y0_, y1_, y2_, y3_, y4_, y5_, y6_, y7_, y8_, y9_, y10_, _⟩ := hW; go_simp; try rfl)⟩) HS ?_
          try simp only [Act.put, List.setIfInBounds_toArray, List.set_cons_zero, List.set_cons_succ]
          refine wpAnyH_take (i := 5) (oi := { dst := some 36, op := Op.extract (Operand.tmp 31) 0, type := 32, pos := "exact.go:6089", after := #[{ on := 4, ground := Ground.data }], guard := none }) (v := .agg #[.int .i64 tR, .int .i64 aR, .int .i64 uR, .slice Zr acR.length Cr, .slice Yr nxR.length Dr]) rfl (by kernel_rfl) (by kernel_rfl) (by kernel_rfl) (fun _ _ _ h => h) (Or.inl ⟨rfl, fun W hW => by (obtain ⟨_, y0_, y1_, y2_, y3_, y4_, y5_, y6_, y7_, y8_, y9_, y10_, _⟩ := hW; go_simp; try rfl)⟩) HS ?_
          try simp only [Act.put, List.setIfInBounds_toArray, List.set_cons_zero, List.set_cons_succ]
          refine wpAnyH_take (i := 6) (oi := { dst := some 37, op := Op.extract (Operand.tmp 31) 1, type := 2, pos := "exact.go:6089", after := #[{ on := 4, ground := Ground.data }, { on := 8, ground := Ground.gcOnly Departure.lateStores }], guard := none }) (v := .int .i64 q) rfl (by kernel_rfl) (by kernel_rfl) (by kernel_rfl) (fun _ _ _ h => h) (Or.inl ⟨rfl, fun W hW => by (obtain ⟨_, y0_, y1_, y2_, y3_, y4_, y5_, y6_, y7_, y8_, y9_, y10_, _⟩ := hW; go_simp; try rfl)⟩) HS ?_
          try simp only [Act.put, List.setIfInBounds_toArray, List.set_cons_zero, List.set_cons_succ]
          obtain ⟨c0, c1, c2, c3, c4, g0, g1, g2, g3, g4⟩ := HR.out.facts5
          refine wpAnyH_ready (rs := [8]) (by kernel_rfl) (by simp) ?_
          refine AllReadyH.cons (o := { dst := none, op := Op.store 32 (Operand.tmp 9) (Operand.tmp 36), type := 0, pos := "exact.go:6089", after := #[{ on := 7, ground := Ground.data }, { on := 5, ground := Ground.data }, { on := 3, ground := Ground.chain }, { on := 0, ground := Ground.phase }, { on := 1, ground := Ground.phase }, { on := 2, ground := Ground.phase }, { on := 3, ground := Ground.phase }, { on := 4, ground := Ground.phase }, { on := 5, ground := Ground.phase }, { on := 6, ground := Ground.textOnly Departure.lateStores }, { on := 7, ground := Ground.phase }], guard := none }) rfl (fun K hK => ?_) AllReadyH.nil
          go_simp
          have HS' : St w [(wd1.heap.size, 0, .slice Zd1 p1.length p1.length), (wd1.heap.size, 1, .slice Yd1 r1.length r1.length), (bq1, 0, .int .i64 tR), (bq1, 1, .int .i64 aR), (bq1, 2, .int .i64 uR), (bq1, 3, .slice Zq1 acR.length Cq1), (bq1, 4, .slice Yq1 nxR.length Dq1), (w.heap.size, 0, .int .i64 t0), (w.heap.size, 1, .int .i64 a0), (w.heap.size + 1, 0, .slice A1 p1.length C1), (w.heap.size + 1, 1, .slice B1 r1.length D1)] _ := (HR.out.fill5 (.int .i64 tR) (.int .i64 aR) (.int .i64 uR) (.slice Zr acR.length Cr) (.slice Yr nxR.length Dr)).st
          refine hK.out _ _ HS' (fun _ => ?_)
          clear hK K HS
          have HS := HS'; clear HS'
          try simp only [Act.put, List.setIfInBounds_toArray, List.set_cons_zero, List.set_cons_succ]
          refine wpAnyH_take (i := 9) (oi := { dst := some 10, op := Op.assign (Operand.tmp 37), type := 2, pos := "exact.go:6089", after := #[{ on := 6, ground := Ground.data }, { on := 8, ground := Ground.chain }, { on := 0, ground := Ground.phase }, { on := 1, ground := Ground.phase }, { on := 2, ground := Ground.phase }, { on := 3, ground := Ground.phase }, { on := 4, ground := Ground.phase }, { on := 5, ground := Ground.phase }, { on := 6, ground := Ground.phase }, { on := 7, ground := Ground.phase }, { on := 8, ground := Ground.phase }], guard := none }) (v := .int .i64 q) rfl (by kernel_rfl) (by kernel_rfl) (by kernel_rfl) (fun _ _ _ h => h) (Or.inl ⟨rfl, fun W hW => by (obtain ⟨_, y0_, y1_, y2_, y3_, y4_, y5_, y6_, y7_, y8_, y9_, y10_, _⟩ := hW; go_simp; try rfl)⟩) HS ?_
          try simp only [Act.put, List.setIfInBounds_toArray, List.set_cons_zero, List.set_cons_succ]
          refine wpAnyH_done (by kernel_rfl) ?_ _
          clear HS
          go_wp2_with fail
          go_meet
          exact ⟨_, _, _, _, _, _, _, rfl, rfl, HR.out.done5 _ _ _ _ _⟩
  case rest =>
  obtain ⟨bq3, loq3, hiq3, Zq3, Yq3, Cq3, Dq3, rfl, rfl, T⟩ := hcut
  clear x0 x1 x2 x3 x4 x5 x6 x7 x8 x9 x10 x11
  clear HR; have HR := Lib.hid T; clear T
  obtain ⟨x0, x1, x2, x3, x4, x5, x6, x7, x8, x9, x10, x11, x12, x13, x14, x15, x16, _⟩ := HR.out.st
  go_wp2_with fail
  refine (KQ.out _ _ _ _ _ _ _ _ _ (HR.out.m1) (HR.out.m2) (HR.out.tl.tl.m1) (HR.out.tl.tl.m2)).mono ?_
  rintro e wq4 ⟨rfl, hb⟩
  have T := HR.out.below hb
  clear x0 x1 x2 x3 x4 x5 x6 x7 x8 x9 x10 x11 x12 x13 x14 x15 x16
  clear HR hb; have HR := Lib.hid T; clear T
  obtain ⟨x0, x1, x2, x3, x4, x5, x6, x7, x8, x9, x10, x11, x12, x13, x14, x15, x16, _⟩ := HR.out.st
  go_wp2_with fail
  go_region_held3 (fun w' => Sees w w' ∧ w'.cell? ⟨bq3, 0, none⟩ = some (.int .i64 tR) ∧ w'.cell? ⟨bq3, 1, none⟩ = some (.int .i64 aR) ∧ w'.cell? ⟨bq3, 2, none⟩ = some (.int .i64 uR) ∧ w'.cell? ⟨bq3, 3, none⟩ = some (.slice Zq3 acR.length Cq3) ∧ w'.cell? ⟨bq3, 4, none⟩ = some (.slice Yq3 nxR.length Dq3) ∧ w'.cell? ⟨wd1.heap.size, 0, none⟩ = some (.slice Zd1 p1.length p1.length) ∧ w'.cell? ⟨wd1.heap.size, 1, none⟩ = some (.slice Yd1 r1.length r1.length) ∧ w'.cell? ⟨bq1, 0, none⟩ = some (.int .i64 tR) ∧ w'.cell? ⟨bq1, 1, none⟩ = some (.int .i64 aR) ∧ w'.cell? ⟨bq1, 2, none⟩ = some (.int .i64 uR) ∧ w'.cell? ⟨bq1, 3, none⟩ = some (.slice Zq1 acR.length Cq1) ∧ w'.cell? ⟨bq1, 4, none⟩ = some (.slice Yq1 nxR.length Dq1) ∧ w'.cell? ⟨w.heap.size, 0, none⟩ = some (.int .i64 t0) ∧ w'.cell? ⟨w.heap.size, 1, none⟩ = some (.int .i64 a0) ∧ w'.cell? ⟨w.heap.size + 1, 0, none⟩ = some (.slice A1 p1.length C1) ∧ w'.cell? ⟨w.heap.size + 1, 1, none⟩ = some (.slice B1 r1.length D1) ∧ True)
    (first | exact HR.out.drew.st | exact UE5.st | exact UT5.st | (go_keep; done))
    (first | (go_at_call 12; (with_reducible refine (KT1.out _ ?_).mono ?_); exact St.sees (l := [(bq3, 0, .int .i64 tR), (bq3, 1, .int .i64 aR), (bq3, 2, .int .i64 uR), (bq3, 3, .slice Zq3 acR.length Cq3), (bq3, 4, .slice Yq3 nxR.length Dq3), (wd1.heap.size, 0, .slice Zd1 p1.length p1.length), (wd1.heap.size, 1, .slice Yd1 r1.length r1.length), (bq1, 0, .int .i64 tR), (bq1, 1, .int .i64 aR), (bq1, 2, .int .i64 uR), (bq1, 3, .slice Zq1 acR.length Cq1), (bq1, 4, .slice Yq1 nxR.length Dq1), (w.heap.size, 0, .int .i64 t0), (w.heap.size, 1, .int .i64 a0), (w.heap.size + 1, 0, .slice A1 p1.length C1), (w.heap.size + 1, 1, .slice B1 r1.length D1)]) (by assumption); rintro e wt5 ⟨Zt5, Yt5, rfl, It5, hbt5⟩; have UT5 := HR.out.drew.resV It5 hbt5) | (go_at_call 15; refine (KE1.out _ _ _ _ _ UT5.tl.tl.v1 UT5.tl.tl.v2 UT5.v1 UT5.v2).mono ?_; rintro e we5 ⟨rfl, hbe5⟩; have UE5 := (UT5.below hbe5).tl))
  clear x0 x1 x2 x3 x4 x5 x6 x7 x8 x9 x10 x11 x12 x13 x14 x15 x16
  clear HR; have HR := Lib.hid UE5; clear UE5 UT5 It5 hbt5 hbe5
  obtain ⟨x0, x1, x2, x3, x4, x5, x6, x7, x8, x9, x10, x11, x12, x13, x14, x15, x16, _⟩ := HR.out.st
  go_wp2_with fail
  refine (KM1.out _ _ _ _ _ _ _ HR.out.tl.hd HR.out.tl.top).mono ?_
  rintro e wm6 ⟨rfl, hb⟩
  have T := Gs.mark (O1 := [ownM acR nxR loq3 hiq3 Zq3 Yq3]) (O2 := [ownM acR nxR loq1 hiq1 Zq1 Yq1]) HR.out hb
  clear x0 x1 x2 x3 x4 x5 x6 x7 x8 x9 x10 x11 x12 x13 x14 x15 x16
  clear HR hb; have HR := Lib.hid T; clear T
  have HR2 : Hid (Gs w [(bq3, 0, .int .i64 tR), (bq3, 1, .int .i64 aR), (bq3, 2, .int .i64 uR), (bq3, 3, .slice Zq3 acR.length Cq3), (bq3, 4, .slice Yq3 nxR.length Dq3), (wd1.heap.size, 0, .slice Zd1 p1.length p1.length), (wd1.heap.size, 1, .slice Yd1 r1.length r1.length), (bq1, 0, .int .i64 tR), (bq1, 1, .int .i64 aR), (bq1, 2, .int .i64 uR), (bq1, 3, .slice Zq1 acR.length Cq1), (bq1, 4, .slice Yq1 nxR.length Dq1), (w.heap.size, 0, .int .i64 t0), (w.heap.size, 1, .int .i64 a0), (w.heap.size + 1, 0, .slice A1 p1.length C1), (w.heap.size + 1, 1, .slice B1 r1.length D1)] [ownM acR nxR loq3 hiq3 Zq3 Yq3, ownM acR nxR loq1 hiq1 Zq1 Yq1] wm6) := HR.out
  clear HR; have HR := HR2; clear HR2
  obtain ⟨x0, x1, x2, x3, x4, x5, x6, x7, x8, x9, x10, x11, x12, x13, x14, x15, x16, _⟩ := HR.out.st
  go_wp2_with fail
  refine (KQ.out _ _ _ _ _ _ _ _ _ (HR.out.m1) (HR.out.m2) (HR.out.tl.m1) (HR.out.tl.m2)).mono ?_
  rintro e wq7 ⟨rfl, hb⟩
  have T := HR.out.below hb
  clear x0 x1 x2 x3 x4 x5 x6 x7 x8 x9 x10 x11 x12 x13 x14 x15 x16
  clear HR hb; have HR := Lib.hid T; clear T
  obtain ⟨x0, x1, x2, x3, x4, x5, x6, x7, x8, x9, x10, x11, x12, x13, x14, x15, x16, _⟩ := HR.out.st
  go_wp2_with fail
  refine (KU.out _ _ _ _ _ _ _ HR.out.hd HR.out.top).mono ?_
  rintro e wm8 ⟨rfl, hw, hb⟩
  have T := HR.out.markedM hb hw
  clear x0 x1 x2 x3 x4 x5 x6 x7 x8 x9 x10 x11 x12 x13 x14 x15 x16
  clear HR hb hw; have HR := Lib.hid T; clear T
  obtain ⟨x0, x1, x2, x3, x4, x5, x6, x7, x8, x9, x10, x11, x12, x13, x14, x15, x16, _⟩ := HR.out.st
  go_wp2_with fail
  refine (KH.out _ _ _ _ _ (HR.out.m1) (HR.out.m2)).mono ?_
  rintro e wh9 ⟨rfl, hb⟩
  have T := HR.out.below hb
  clear x0 x1 x2 x3 x4 x5 x6 x7 x8 x9 x10 x11 x12 x13 x14 x15 x16
  clear HR hb; have HR := Lib.hid T; clear T
  obtain ⟨x0, x1, x2, x3, x4, x5, x6, x7, x8, x9, x10, x11, x12, x13, x14, x15, x16, _⟩ := HR.out.st
  go_wp2_with fail
  go_cut [14, 15] (fun sp sc wx => ∃ (bq10 loq10 hiq10 : Nat) (Zq10 Yq10 : Option Addr) (Cq10 Dq10 : Nat), sp = .pointer (some ⟨bq10, 0, none⟩) ∧ sc = .int .i64 q ∧ Gs w [(bq10, 0, .int .i64 tR), (bq10, 1, .int .i64 aR), (bq10, 2, .int .i64 uR), (bq10, 3, .slice Zq10 acR.length Cq10), (bq10, 4, .slice Yq10 nxR.length Dq10), (bq3, 0, .int .i64 tR), (bq3, 1, .int .i64 aR), (bq3, 2, .int .i64 uR), (bq3, 3, .slice Zq3 acR.length Cq3), (bq3, 4, .slice Yq3 nxR.length Dq3), (wd1.heap.size, 0, .slice Zd1 p1.length p1.length), (wd1.heap.size, 1, .slice Yd1 r1.length r1.length), (bq1, 0, .int .i64 tR), (bq1, 1, .int .i64 aR), (bq1, 2, .int .i64 uR), (bq1, 3, .slice Zq1 acR.length Cq1), (bq1, 4, .slice Yq1 nxR.length Dq1), (w.heap.size, 0, .int .i64 t0), (w.heap.size, 1, .int .i64 a0), (w.heap.size + 1, 0, .slice A1 p1.length C1), (w.heap.size + 1, 1, .slice B1 r1.length D1)] (ownM acR nxR loq10 hiq10 Zq10 Yq10 :: [ownM (mkL (mkE mb) List.length 1 acR) (mkL (mkL (mkE mb) List.length) (szL List.length) (1 + (szL List.length acR : Nat)) nxR) loq3 hiq3 Zq3 Yq3, ownM acR nxR loq1 hiq1 Zq1 Yq1]) wx)
  case first =>
    clear x0 x1 x2 x3 x4 x5 x6 x7 x8 x9 x10 x11 x12 x13 x14 x15 x16
    refine wp_region_held_drew (S := fun w' => St w [(bq3, 0, .int .i64 tR), (bq3, 1, .int .i64 aR), (bq3, 2, .int .i64 uR), (bq3, 3, .slice Zq3 acR.length Cq3), (bq3, 4, .slice Yq3 nxR.length Dq3), (wd1.heap.size, 0, .slice Zd1 p1.length p1.length), (wd1.heap.size, 1, .slice Yd1 r1.length r1.length), (bq1, 0, .int .i64 tR), (bq1, 1, .int .i64 aR), (bq1, 2, .int .i64 uR), (bq1, 3, .slice Zq1 acR.length Cq1), (bq1, 4, .slice Yq1 nxR.length Dq1), (w.heap.size, 0, .int .i64 t0), (w.heap.size, 1, .int .i64 a0), (w.heap.size + 1, 0, .slice A1 p1.length C1), (w.heap.size + 1, 1, .slice B1 r1.length D1)] w') (by kernel_rfl) HR.out.drew.st (fun HS => ?_)
    obtain ⟨w20, ew20⟩ : ∃ wn, wn = _ := ⟨_, rfl⟩
    have G0 : Hid (Gs w [(bq3, 0, .int .i64 tR), (bq3, 1, .int .i64 aR), (bq3, 2, .int .i64 uR), (bq3, 3, .slice Zq3 acR.length Cq3), (bq3, 4, .slice Yq3 nxR.length Dq3), (wd1.heap.size, 0, .slice Zd1 p1.length p1.length), (wd1.heap.size, 1, .slice Yd1 r1.length r1.length), (bq1, 0, .int .i64 tR), (bq1, 1, .int .i64 aR), (bq1, 2, .int .i64 uR), (bq1, 3, .slice Zq1 acR.length Cq1), (bq1, 4, .slice Yq1 nxR.length Dq1), (w.heap.size, 0, .int .i64 t0), (w.heap.size, 1, .int .i64 a0), (w.heap.size + 1, 0, .slice A1 p1.length C1), (w.heap.size + 1, 1, .slice B1 r1.length D1)] [ownM (mkL (mkE mb) List.length 1 acR) (mkL (mkL (mkE mb) List.length) (szL List.length) (1 + (szL List.length acR : Nat)) nxR) loq3 hiq3 Zq3 Yq3, ownM acR nxR loq1 hiq1 Zq1 Yq1] w20) := by rw [ew20]; exact HR.out.drew
    rw [← ew20] at HS ⊢
    clear ew20 HR
    have HR := G0; clear G0
    refine wpAnyH_take (i := 0) (oi := { dst := some 80, op := Op.load 23 (Operand.tmp 2), type := 23, pos := "exact.go:6111", after := #[], guard := none }) (v := .agg #[.int .i64 t0, .int .i64 a0]) rfl (by kernel_rfl) (by kernel_rfl) (by kernel_rfl) (fun _ _ _ h => h) (Or.inl ⟨rfl, fun W hW => by (obtain ⟨_, y0_, y1_, y2_, y3_, y4_, y5_, y6_, y7_, y8_, y9_, y10_, y11_, y12_, y13_, y14_, y15_, _⟩ := hW; go_simp; try rfl)⟩) HS ?_
    try simp only [Act.put, List.setIfInBounds_toArray, List.set_cons_zero, List.set_cons_succ]
    refine wpAnyH_take (i := 2) (oi := { dst := some 82, op := Op.load 26 (Operand.tmp 3), type := 26, pos := "exact.go:6111", after := #[], guard := none }) (v := .agg #[.slice A1 p1.length C1, .slice B1 r1.length D1]) rfl (by kernel_rfl) (by kernel_rfl) (by kernel_rfl) (fun _ _ _ h => h) (Or.inl ⟨rfl, fun W hW => by (obtain ⟨_, y0_, y1_, y2_, y3_, y4_, y5_, y6_, y7_, y8_, y9_, y10_, y11_, y12_, y13_, y14_, y15_, _⟩ := hW; go_simp; try rfl)⟩) HS ?_
    try simp only [Act.put, List.setIfInBounds_toArray, List.set_cons_zero, List.set_cons_succ]
    refine wpAnyH_ready (rs := [1, 8]) (by kernel_rfl) (by simp) ?_
    refine (AllReadyH.cons (o := { dst := some 81, op := Op.call { callee := Callee.value (Operand.func 11), args := #[Operand.tmp 80], argTypes := #[23] }, type := 28, pos := "exact.go:6111", after := #[{ on := 0, ground := Ground.data }], guard := none }) rfl (fun K hK => ?_) (AllReadyH.cons (o := { dst := some 14, op := Op.alloc 32, type := 0, pos := "exact.go:6111", after := #[], guard := none }) rfl (fun K hK => ?_) AllReadyH.nil))
    · go_simp
      refine (KT0.out _ HR.out.st.1).mono ?_
      rintro e wn1 ⟨rfl, hb⟩
      have H2 := Lib.hid (HR.out.below hb)
      clear HR; have HR := H2; clear H2 hb
      clear HS; have HS := HR.out.st
      refine hK.out _ _ HS (fun _ => ?_)
      clear hK K
      try simp only [Act.put, List.setIfInBounds_toArray, List.set_cons_zero, List.set_cons_succ]
      refine wpAnyH_ready (rs := [3, 8]) (by kernel_rfl) (by simp) ?_
      refine (AllReadyH.cons (o := { dst := some 83, op := Op.call { callee := Callee.value (Operand.func 12), args := #[Operand.tmp 82], argTypes := #[26] }, type := 36, pos := "exact.go:6111", after := #[{ on := 2, ground := Ground.data }, { on := 1, ground := Ground.chain }], guard := none }) rfl (fun K hK => ?_) (AllReadyH.cons (o := { dst := some 14, op := Op.alloc 32, type := 0, pos := "exact.go:6111", after := #[], guard := none }) rfl (fun K hK => ?_) AllReadyH.nil))
      · go_simp
        refine (KT1.out _ HR.out.st.1).mono ?_
        rintro e wn2 ⟨Zc1, Yc1, rfl, Ic, hb⟩
        have H2 := Lib.hid (HR.out.resV Ic hb)
        clear HR; have HR := H2; clear H2 hb
        clear HS; have HS := HR.out.st
        refine hK.out _ _ HS (fun _ => ?_)
        clear hK K
        try simp only [Act.put, List.setIfInBounds_toArray, List.set_cons_zero, List.set_cons_succ]
        refine wpAnyH_ready (rs := [4, 8]) (by kernel_rfl) (by simp) ?_
        refine (AllReadyH.cons (o := { dst := some 84, op := Op.call { callee := Callee.value (Operand.func 13), args := #[Operand.tmp 81, Operand.tmp 83], argTypes := #[28, 36] }, type := 33, pos := "exact.go:6111", after := #[{ on := 1, ground := Ground.data }, { on := 3, ground := Ground.data }, { on := 3, ground := Ground.chain }], guard := none }) rfl (fun K hK => ?_) (AllReadyH.cons (o := { dst := some 14, op := Op.alloc 32, type := 0, pos := "exact.go:6111", after := #[], guard := none }) rfl (fun K hK => ?_) AllReadyH.nil))
        · go_simp
          refine (KG2.out _ _ _ (HR.out.v1) (HR.out.v2)).mono ?_
          rintro e wn3 ⟨Zr, Yr, Cr, Dr, rfl, Ir, hb⟩
          have H2 := Lib.hid ((HR.out.resM Ir hb).skip)
          clear HR; have HR := H2; clear H2 hb
          clear HS; have HS := HR.out.st
          refine hK.out _ _ HS (fun _ => ?_)
          clear hK K
          try simp only [Act.put, List.setIfInBounds_toArray, List.set_cons_zero, List.set_cons_succ]
          refine wpAnyH_take (i := 5) (oi := { dst := some 79, op := Op.move (Operand.tmp 84), type := 33, pos := "exact.go:6111", after := #[{ on := 4, ground := Ground.data }], guard := none }) (v := .tuple #[.agg #[.int .i64 tR, .int .i64 aR, .int .i64 uR, .slice Zr acR.length Cr, .slice Yr nxR.length Dr], .int .i64 q]) rfl (by kernel_rfl) (by kernel_rfl) (by kernel_rfl) (fun _ _ _ h => h) (Or.inl ⟨rfl, fun W hW => by (obtain ⟨_, y0_, y1_, y2_, y3_, y4_, y5_, y6_, y7_, y8_, y9_, y10_, y11_, y12_, y13_, y14_, y15_, _⟩ := hW; go_simp; try rfl)⟩) HS ?_
          try simp only [Act.put, List.setIfInBounds_toArray, List.set_cons_zero, List.set_cons_succ]
          refine wpAnyH_take (i := 6) (oi := { dst := some 85, op := Op.extract (Operand.tmp 79) 0, type := 32, pos := "exact.go:6111", after := #[{ on := 5, ground := Ground.data }], guard := none }) (v := .agg #[.int .i64 tR, .int .i64 aR, .int .i64 uR, .slice Zr acR.length Cr, .slice Yr nxR.length Dr]) rfl (by kernel_rfl) (by kernel_rfl) (by kernel_rfl) (fun _ _ _ h => h) (Or.inl ⟨rfl, fun W hW => by (obtain ⟨_, y0_, y1_, y2_, y3_, y4_, y5_, y6_, y7_, y8_, y9_, y10_, y11_, y12_, y13_, y14_, y15_, _⟩ := hW; go_simp; try rfl)⟩) HS ?_
          try simp only [Act.put, List.setIfInBounds_toArray, List.set_cons_zero, List.set_cons_succ]
          refine wpAnyH_take (i := 7) (oi := { dst := some 86, op := Op.extract (Operand.tmp 79) 1, type := 2, pos := "exact.go:6111", after := #[{ on := 5, ground := Ground.data }, { on := 9, ground := Ground.gcOnly Departure.lateStores }], guard := none }) (v := .int .i64 q) rfl (by kernel_rfl) (by kernel_rfl) (by kernel_rfl) (fun _ _ _ h => h) (Or.inl ⟨rfl, fun W hW => by (obtain ⟨_, y0_, y1_, y2_, y3_, y4_, y5_, y6_, y7_, y8_, y9_, y10_, y11_, y12_, y13_, y14_, y15_, _⟩ := hW; go_simp; try rfl)⟩) HS ?_
          try simp only [Act.put, List.setIfInBounds_toArray, List.set_cons_zero, List.set_cons_succ]
          refine wpAnyH_ready (rs := [8]) (by kernel_rfl) (by simp) ?_
          refine (AllReadyH.cons (o := { dst := some 14, op := Op.alloc 32, type := 0, pos := "exact.go:6111", after := #[], guard := none }) rfl (fun K hK => ?_) AllReadyH.nil)
          · go_simp
            have H2 := HR.out.boxed #[.int .i64 0, .int .i64 0, .int .i64 0, .slice none 0 0, .slice none 0 0] 32
            obtain ⟨wn4, ewn⟩ : ∃ W, W = World.alloc wn3 (.cells #[.int .i64 0, .int .i64 0, .int .i64 0, .slice none 0 0, .slice none 0 0] 32 (0, 0)) := ⟨_, rfl⟩
            obtain ⟨wn4b, ebn⟩ : ∃ n, n = wn3.heap.size := ⟨_, rfl⟩
            rw [← ewn, ← ebn] at H2 ⊢
            clear HR ewn ebn; have HR := Lib.hid H2; clear H2
            clear HS; have HS := HR.out.st
            refine hK.out _ _ HS (fun _ => ?_)
            clear hK K
            try simp only [Act.put, List.setIfInBounds_toArray, List.set_cons_zero, List.set_cons_succ]
            obtain ⟨c0, c1, c2, c3, c4, g0, g1, g2, g3, g4⟩ := HR.out.facts5
            refine wpAnyH_ready (rs := [9]) (by kernel_rfl) (by simp) ?_
            refine AllReadyH.cons (o := { dst := none, op := Op.store 32 (Operand.tmp 14) (Operand.tmp 85), type := 0, pos := "exact.go:6111", after := #[{ on := 8, ground := Ground.data }, { on := 6, ground := Ground.data }, { on := 4, ground := Ground.chain }, { on := 0, ground := Ground.phase }, { on := 1, ground := Ground.phase }, { on := 2, ground := Ground.phase }, { on := 3, ground := Ground.phase }, { on := 4, ground := Ground.phase }, { on := 5, ground := Ground.phase }, { on := 6, ground := Ground.phase }, { on := 7, ground := Ground.textOnly Departure.lateStores }, { on := 8, ground := Ground.phase }], guard := none }) rfl (fun K hK => ?_) AllReadyH.nil
            go_simp
            have HS' : St w [(bq3, 0, .int .i64 tR), (bq3, 1, .int .i64 aR), (bq3, 2, .int .i64 uR), (bq3, 3, .slice Zq3 acR.length Cq3), (bq3, 4, .slice Yq3 nxR.length Dq3), (wd1.heap.size, 0, .slice Zd1 p1.length p1.length), (wd1.heap.size, 1, .slice Yd1 r1.length r1.length), (bq1, 0, .int .i64 tR), (bq1, 1, .int .i64 aR), (bq1, 2, .int .i64 uR), (bq1, 3, .slice Zq1 acR.length Cq1), (bq1, 4, .slice Yq1 nxR.length Dq1), (w.heap.size, 0, .int .i64 t0), (w.heap.size, 1, .int .i64 a0), (w.heap.size + 1, 0, .slice A1 p1.length C1), (w.heap.size + 1, 1, .slice B1 r1.length D1)] _ := (HR.out.fill5 (.int .i64 tR) (.int .i64 aR) (.int .i64 uR) (.slice Zr acR.length Cr) (.slice Yr nxR.length Dr)).st
            refine hK.out _ _ HS' (fun _ => ?_)
            clear hK K HS
            have HS := HS'; clear HS'
            try simp only [Act.put, List.setIfInBounds_toArray, List.set_cons_zero, List.set_cons_succ]
            refine wpAnyH_take (i := 10) (oi := { dst := some 15, op := Op.assign (Operand.tmp 86), type := 2, pos := "exact.go:6111", after := #[{ on := 7, ground := Ground.data }, { on := 9, ground := Ground.chain }, { on := 0, ground := Ground.phase }, { on := 1, ground := Ground.phase }, { on := 2, ground := Ground.phase }, { on := 3, ground := Ground.phase }, { on := 4, ground := Ground.phase }, { on := 5, ground := Ground.phase }, { on := 6, ground := Ground.phase }, { on := 7, ground := Ground.phase }, { on := 8, ground := Ground.phase }, { on := 9, ground := Ground.phase }], guard := none }) (v := .int .i64 q) rfl (by kernel_rfl) (by kernel_rfl) (by kernel_rfl) (fun _ _ _ h => h) (Or.inl ⟨rfl, fun W hW => by (obtain ⟨_, y0_, y1_, y2_, y3_, y4_, y5_, y6_, y7_, y8_, y9_, y10_, y11_, y12_, y13_, y14_, y15_, _⟩ := hW; go_simp; try rfl)⟩) HS ?_
            try simp only [Act.put, List.setIfInBounds_toArray, List.set_cons_zero, List.set_cons_succ]
            refine wpAnyH_done (by kernel_rfl) ?_ _
            clear HS
            go_wp2_with fail
            go_meet
            exact ⟨_, _, _, _, _, _, _, rfl, rfl, HR.out.done5 _ _ _ _ _⟩
        · go_simp
          have H2 := HR.out.boxed #[.int .i64 0, .int .i64 0, .int .i64 0, .slice none 0 0, .slice none 0 0] 32
          obtain ⟨wn5, ewn⟩ : ∃ W, W = World.alloc wn2 (.cells #[.int .i64 0, .int .i64 0, .int .i64 0, .slice none 0 0, .slice none 0 0] 32 (0, 0)) := ⟨_, rfl⟩
          obtain ⟨wn5b, ebn⟩ : ∃ n, n = wn2.heap.size := ⟨_, rfl⟩
          rw [← ewn, ← ebn] at H2 ⊢
          clear HR ewn ebn; have HR := Lib.hid H2; clear H2
          clear HS; have HS := HR.out.st
          refine hK.out _ _ HS (fun _ => ?_)
          clear hK K
          try simp only [Act.put, List.setIfInBounds_toArray, List.set_cons_zero, List.set_cons_succ]
          refine wpAnyH_ready (rs := [4]) (by kernel_rfl) (by simp) ?_
          refine (AllReadyH.cons (o := { dst := some 84, op := Op.call { callee := Callee.value (Operand.func 13), args := #[Operand.tmp 81, Operand.tmp 83], argTypes := #[28, 36] }, type := 33, pos := "exact.go:6111", after := #[{ on := 1, ground := Ground.data }, { on := 3, ground := Ground.data }, { on := 3, ground := Ground.chain }], guard := none }) rfl (fun K hK => ?_) AllReadyH.nil)
          · go_simp
            refine (KG2.out _ _ _ (HR.out.v1) (HR.out.v2)).mono ?_
            rintro e wn6 ⟨Zr, Yr, Cr, Dr, rfl, Ir, hb⟩
            have H2 := Lib.hid ((HR.out.resM Ir hb).skip)
            clear HR; have HR := H2; clear H2 hb
            clear HS; have HS := HR.out.st
            refine hK.out _ _ HS (fun _ => ?_)
            clear hK K
            try simp only [Act.put, List.setIfInBounds_toArray, List.set_cons_zero, List.set_cons_succ]
            refine wpAnyH_take (i := 5) (oi := { dst := some 79, op := Op.move (Operand.tmp 84), type := 33, pos := "exact.go:6111", after := #[{ on := 4, ground := Ground.data }], guard := none }) (v := .tuple #[.agg #[.int .i64 tR, .int .i64 aR, .int .i64 uR, .slice Zr acR.length Cr, .slice Yr nxR.length Dr], .int .i64 q]) rfl (by kernel_rfl) (by kernel_rfl) (by kernel_rfl) (fun _ _ _ h => h) (Or.inl ⟨rfl, fun W hW => by (obtain ⟨_, y0_, y1_, y2_, y3_, y4_, y5_, y6_, y7_, y8_, y9_, y10_, y11_, y12_, y13_, y14_, y15_, _⟩ := hW; go_simp; try rfl)⟩) HS ?_
            try simp only [Act.put, List.setIfInBounds_toArray, List.set_cons_zero, List.set_cons_succ]
            refine wpAnyH_take (i := 6) (oi := { dst := some 85, op := Op.extract (Operand.tmp 79) 0, type := 32, pos := "exact.go:6111", after := #[{ on := 5, ground := Ground.data }], guard := none }) (v := .agg #[.int .i64 tR, .int .i64 aR, .int .i64 uR, .slice Zr acR.length Cr, .slice Yr nxR.length Dr]) rfl (by kernel_rfl) (by kernel_rfl) (by kernel_rfl) (fun _ _ _ h => h) (Or.inl ⟨rfl, fun W hW => by (obtain ⟨_, y0_, y1_, y2_, y3_, y4_, y5_, y6_, y7_, y8_, y9_, y10_, y11_, y12_, y13_, y14_, y15_, _⟩ := hW; go_simp; try rfl)⟩) HS ?_
            try simp only [Act.put, List.setIfInBounds_toArray, List.set_cons_zero, List.set_cons_succ]
            refine wpAnyH_take (i := 7) (oi := { dst := some 86, op := Op.extract (Operand.tmp 79) 1, type := 2, pos := "exact.go:6111", after := #[{ on := 5, ground := Ground.data }, { on := 9, ground := Ground.gcOnly Departure.lateStores }], guard := none }) (v := .int .i64 q) rfl (by kernel_rfl) (by kernel_rfl) (by kernel_rfl) (fun _ _ _ h => h) (Or.inl ⟨rfl, fun W hW => by (obtain ⟨_, y0_, y1_, y2_, y3_, y4_, y5_, y6_, y7_, y8_, y9_, y10_, y11_, y12_, y13_, y14_, y15_, _⟩ := hW; go_simp; try rfl)⟩) HS ?_
            try simp only [Act.put, List.setIfInBounds_toArray, List.set_cons_zero, List.set_cons_succ]
            obtain ⟨c0, c1, c2, c3, c4, g0, g1, g2, g3, g4⟩ := HR.out.facts5
            refine wpAnyH_ready (rs := [9]) (by kernel_rfl) (by simp) ?_
            refine AllReadyH.cons (o := { dst := none, op := Op.store 32 (Operand.tmp 14) (Operand.tmp 85), type := 0, pos := "exact.go:6111", after := #[{ on := 8, ground := Ground.data }, { on := 6, ground := Ground.data }, { on := 4, ground := Ground.chain }, { on := 0, ground := Ground.phase }, { on := 1, ground := Ground.phase }, { on := 2, ground := Ground.phase }, { on := 3, ground := Ground.phase }, { on := 4, ground := Ground.phase }, { on := 5, ground := Ground.phase }, { on := 6, ground := Ground.phase }, { on := 7, ground := Ground.textOnly Departure.lateStores }, { on := 8, ground := Ground.phase }], guard := none }) rfl (fun K hK => ?_) AllReadyH.nil
            go_simp
            have HS' : St w [(bq3, 0, .int .i64 tR), (bq3, 1, .int .i64 aR), (bq3, 2, .int .i64 uR), (bq3, 3, .slice Zq3 acR.length Cq3), (bq3, 4, .slice Yq3 nxR.length Dq3), (wd1.heap.size, 0, .slice Zd1 p1.length p1.length), (wd1.heap.size, 1, .slice Yd1 r1.length r1.length), (bq1, 0, .int .i64 tR), (bq1, 1, .int .i64 aR), (bq1, 2, .int .i64 uR), (bq1, 3, .slice Zq1 acR.length Cq1), (bq1, 4, .slice Yq1 nxR.length Dq1), (w.heap.size, 0, .int .i64 t0), (w.heap.size, 1, .int .i64 a0), (w.heap.size + 1, 0, .slice A1 p1.length C1), (w.heap.size + 1, 1, .slice B1 r1.length D1)] _ := (HR.out.fill5 (.int .i64 tR) (.int .i64 aR) (.int .i64 uR) (.slice Zr acR.length Cr) (.slice Yr nxR.length Dr)).st
            refine hK.out _ _ HS' (fun _ => ?_)
            clear hK K HS
            have HS := HS'; clear HS'
            try simp only [Act.put, List.setIfInBounds_toArray, List.set_cons_zero, List.set_cons_succ]
            refine wpAnyH_take (i := 10) (oi := { dst := some 15, op := Op.assign (Operand.tmp 86), type := 2, pos := "exact.go:6111", after := #[{ on := 7, ground := Ground.data }, { on := 9, ground := Ground.chain }, { on := 0, ground := Ground.phase }, { on := 1, ground := Ground.phase }, { on := 2, ground := Ground.phase }, { on := 3, ground := Ground.phase }, { on := 4, ground := Ground.phase }, { on := 5, ground := Ground.phase }, { on := 6, ground := Ground.phase }, { on := 7, ground := Ground.phase }, { on := 8, ground := Ground.phase }, { on := 9, ground := Ground.phase }], guard := none }) (v := .int .i64 q) rfl (by kernel_rfl) (by kernel_rfl) (by kernel_rfl) (fun _ _ _ h => h) (Or.inl ⟨rfl, fun W hW => by (obtain ⟨_, y0_, y1_, y2_, y3_, y4_, y5_, y6_, y7_, y8_, y9_, y10_, y11_, y12_, y13_, y14_, y15_, _⟩ := hW; go_simp; try rfl)⟩) HS ?_
            try simp only [Act.put, List.setIfInBounds_toArray, List.set_cons_zero, List.set_cons_succ]
            refine wpAnyH_done (by kernel_rfl) ?_ _
            clear HS
            go_wp2_with fail
            go_meet
            exact ⟨_, _, _, _, _, _, _, rfl, rfl, HR.out.done5 _ _ _ _ _⟩
      · go_simp
        have H2 := HR.out.boxed #[.int .i64 0, .int .i64 0, .int .i64 0, .slice none 0 0, .slice none 0 0] 32
        obtain ⟨wn7, ewn⟩ : ∃ W, W = World.alloc wn1 (.cells #[.int .i64 0, .int .i64 0, .int .i64 0, .slice none 0 0, .slice none 0 0] 32 (0, 0)) := ⟨_, rfl⟩
        obtain ⟨wn7b, ebn⟩ : ∃ n, n = wn1.heap.size := ⟨_, rfl⟩
        rw [← ewn, ← ebn] at H2 ⊢
        clear HR ewn ebn; have HR := Lib.hid H2; clear H2
        clear HS; have HS := HR.out.st
        refine hK.out _ _ HS (fun _ => ?_)
        clear hK K
        try simp only [Act.put, List.setIfInBounds_toArray, List.set_cons_zero, List.set_cons_succ]
        refine wpAnyH_ready (rs := [3]) (by kernel_rfl) (by simp) ?_
        refine (AllReadyH.cons (o := { dst := some 83, op := Op.call { callee := Callee.value (Operand.func 12), args := #[Operand.tmp 82], argTypes := #[26] }, type := 36, pos := "exact.go:6111", after := #[{ on := 2, ground := Ground.data }, { on := 1, ground := Ground.chain }], guard := none }) rfl (fun K hK => ?_) AllReadyH.nil)
        · go_simp
          refine (KT1.out _ HR.out.st.1).mono ?_
          rintro e wn8 ⟨Zc1, Yc1, rfl, Ic, hb⟩
          have H2 := Lib.hid (HR.out.resV Ic hb)
          clear HR; have HR := H2; clear H2 hb
          clear HS; have HS := HR.out.st
          refine hK.out _ _ HS (fun _ => ?_)
          clear hK K
          try simp only [Act.put, List.setIfInBounds_toArray, List.set_cons_zero, List.set_cons_succ]
          refine wpAnyH_ready (rs := [4]) (by kernel_rfl) (by simp) ?_
          refine (AllReadyH.cons (o := { dst := some 84, op := Op.call { callee := Callee.value (Operand.func 13), args := #[Operand.tmp 81, Operand.tmp 83], argTypes := #[28, 36] }, type := 33, pos := "exact.go:6111", after := #[{ on := 1, ground := Ground.data }, { on := 3, ground := Ground.data }, { on := 3, ground := Ground.chain }], guard := none }) rfl (fun K hK => ?_) AllReadyH.nil)
          · go_simp
            refine (KG2.out _ _ _ (HR.out.v1) (HR.out.v2)).mono ?_
            rintro e wn9 ⟨Zr, Yr, Cr, Dr, rfl, Ir, hb⟩
            have H2 := Lib.hid ((HR.out.resM Ir hb).skip)
            clear HR; have HR := H2; clear H2 hb
            clear HS; have HS := HR.out.st
            refine hK.out _ _ HS (fun _ => ?_)
            clear hK K
            try simp only [Act.put, List.setIfInBounds_toArray, List.set_cons_zero, List.set_cons_succ]
            refine wpAnyH_take (i := 5) (oi := { dst := some 79, op := Op.move (Operand.tmp 84), type := 33, pos := "exact.go:6111", after := #[{ on := 4, ground := Ground.data }], guard := none }) (v := .tuple #[.agg #[.int .i64 tR, .int .i64 aR, .int .i64 uR, .slice Zr acR.length Cr, .slice Yr nxR.length Dr], .int .i64 q]) rfl (by kernel_rfl) (by kernel_rfl) (by kernel_rfl) (fun _ _ _ h => h) (Or.inl ⟨rfl, fun W hW => by (obtain ⟨_, y0_, y1_, y2_, y3_, y4_, y5_, y6_, y7_, y8_, y9_, y10_, y11_, y12_, y13_, y14_, y15_, _⟩ := hW; go_simp; try rfl)⟩) HS ?_
            try simp only [Act.put, List.setIfInBounds_toArray, List.set_cons_zero, List.set_cons_succ]
            refine wpAnyH_take (i := 6) (oi := { dst := some 85, op := Op.extract (Operand.tmp 79) 0, type := 32, pos := "exact.go:6111", after := #[{ on := 5, ground := Ground.data }], guard := none }) (v := .agg #[.int .i64 tR, .int .i64 aR, .int .i64 uR, .slice Zr acR.length Cr, .slice Yr nxR.length Dr]) rfl (by kernel_rfl) (by kernel_rfl) (by kernel_rfl) (fun _ _ _ h => h) (Or.inl ⟨rfl, fun W hW => by (obtain ⟨_, y0_, y1_, y2_, y3_, y4_, y5_, y6_, y7_, y8_, y9_, y10_, y11_, y12_, y13_, y14_, y15_, _⟩ := hW; go_simp; try rfl)⟩) HS ?_
            try simp only [Act.put, List.setIfInBounds_toArray, List.set_cons_zero, List.set_cons_succ]
            refine wpAnyH_take (i := 7) (oi := { dst := some 86, op := Op.extract (Operand.tmp 79) 1, type := 2, pos := "exact.go:6111", after := #[{ on := 5, ground := Ground.data }, { on := 9, ground := Ground.gcOnly Departure.lateStores }], guard := none }) (v := .int .i64 q) rfl (by kernel_rfl) (by kernel_rfl) (by kernel_rfl) (fun _ _ _ h => h) (Or.inl ⟨rfl, fun W hW => by (obtain ⟨_, y0_, y1_, y2_, y3_, y4_, y5_, y6_, y7_, y8_, y9_, y10_, y11_, y12_, y13_, y14_, y15_, _⟩ := hW; go_simp; try rfl)⟩) HS ?_
            try simp only [Act.put, List.setIfInBounds_toArray, List.set_cons_zero, List.set_cons_succ]
            obtain ⟨c0, c1, c2, c3, c4, g0, g1, g2, g3, g4⟩ := HR.out.facts5
            refine wpAnyH_ready (rs := [9]) (by kernel_rfl) (by simp) ?_
            refine AllReadyH.cons (o := { dst := none, op := Op.store 32 (Operand.tmp 14) (Operand.tmp 85), type := 0, pos := "exact.go:6111", after := #[{ on := 8, ground := Ground.data }, { on := 6, ground := Ground.data }, { on := 4, ground := Ground.chain }, { on := 0, ground := Ground.phase }, { on := 1, ground := Ground.phase }, { on := 2, ground := Ground.phase }, { on := 3, ground := Ground.phase }, { on := 4, ground := Ground.phase }, { on := 5, ground := Ground.phase }, { on := 6, ground := Ground.phase }, { on := 7, ground := Ground.textOnly Departure.lateStores }, { on := 8, ground := Ground.phase }], guard := none }) rfl (fun K hK => ?_) AllReadyH.nil
            go_simp
            have HS' : St w [(bq3, 0, .int .i64 tR), (bq3, 1, .int .i64 aR), (bq3, 2, .int .i64 uR), (bq3, 3, .slice Zq3 acR.length Cq3), (bq3, 4, .slice Yq3 nxR.length Dq3), (wd1.heap.size, 0, .slice Zd1 p1.length p1.length), (wd1.heap.size, 1, .slice Yd1 r1.length r1.length), (bq1, 0, .int .i64 tR), (bq1, 1, .int .i64 aR), (bq1, 2, .int .i64 uR), (bq1, 3, .slice Zq1 acR.length Cq1), (bq1, 4, .slice Yq1 nxR.length Dq1), (w.heap.size, 0, .int .i64 t0), (w.heap.size, 1, .int .i64 a0), (w.heap.size + 1, 0, .slice A1 p1.length C1), (w.heap.size + 1, 1, .slice B1 r1.length D1)] _ := (HR.out.fill5 (.int .i64 tR) (.int .i64 aR) (.int .i64 uR) (.slice Zr acR.length Cr) (.slice Yr nxR.length Dr)).st
            refine hK.out _ _ HS' (fun _ => ?_)
            clear hK K HS
            have HS := HS'; clear HS'
            try simp only [Act.put, List.setIfInBounds_toArray, List.set_cons_zero, List.set_cons_succ]
            refine wpAnyH_take (i := 10) (oi := { dst := some 15, op := Op.assign (Operand.tmp 86), type := 2, pos := "exact.go:6111", after := #[{ on := 7, ground := Ground.data }, { on := 9, ground := Ground.chain }, { on := 0, ground := Ground.phase }, { on := 1, ground := Ground.phase }, { on := 2, ground := Ground.phase }, { on := 3, ground := Ground.phase }, { on := 4, ground := Ground.phase }, { on := 5, ground := Ground.phase }, { on := 6, ground := Ground.phase }, { on := 7, ground := Ground.phase }, { on := 8, ground := Ground.phase }, { on := 9, ground := Ground.phase }], guard := none }) (v := .int .i64 q) rfl (by kernel_rfl) (by kernel_rfl) (by kernel_rfl) (fun _ _ _ h => h) (Or.inl ⟨rfl, fun W hW => by (obtain ⟨_, y0_, y1_, y2_, y3_, y4_, y5_, y6_, y7_, y8_, y9_, y10_, y11_, y12_, y13_, y14_, y15_, _⟩ := hW; go_simp; try rfl)⟩) HS ?_
            try simp only [Act.put, List.setIfInBounds_toArray, List.set_cons_zero, List.set_cons_succ]
            refine wpAnyH_done (by kernel_rfl) ?_ _
            clear HS
            go_wp2_with fail
            go_meet
            exact ⟨_, _, _, _, _, _, _, rfl, rfl, HR.out.done5 _ _ _ _ _⟩
    · go_simp
      have H2 := HR.out.boxed #[.int .i64 0, .int .i64 0, .int .i64 0, .slice none 0 0, .slice none 0 0] 32
      obtain ⟨wn10, ewn⟩ : ∃ W, W = World.alloc w20 (.cells #[.int .i64 0, .int .i64 0, .int .i64 0, .slice none 0 0, .slice none 0 0] 32 (0, 0)) := ⟨_, rfl⟩
      obtain ⟨wn10b, ebn⟩ : ∃ n, n = w20.heap.size := ⟨_, rfl⟩
      rw [← ewn, ← ebn] at H2 ⊢
      clear HR ewn ebn; have HR := Lib.hid H2; clear H2
      clear HS; have HS := HR.out.st
      refine hK.out _ _ HS (fun _ => ?_)
      clear hK K
      try simp only [Act.put, List.setIfInBounds_toArray, List.set_cons_zero, List.set_cons_succ]
      refine wpAnyH_ready (rs := [1]) (by kernel_rfl) (by simp) ?_
      refine (AllReadyH.cons (o := { dst := some 81, op := Op.call { callee := Callee.value (Operand.func 11), args := #[Operand.tmp 80], argTypes := #[23] }, type := 28, pos := "exact.go:6111", after := #[{ on := 0, ground := Ground.data }], guard := none }) rfl (fun K hK => ?_) AllReadyH.nil)
      · go_simp
        refine (KT0.out _ HR.out.st.1).mono ?_
        rintro e wn11 ⟨rfl, hb⟩
        have H2 := Lib.hid (HR.out.below hb)
        clear HR; have HR := H2; clear H2 hb
        clear HS; have HS := HR.out.st
        refine hK.out _ _ HS (fun _ => ?_)
        clear hK K
        try simp only [Act.put, List.setIfInBounds_toArray, List.set_cons_zero, List.set_cons_succ]
        refine wpAnyH_ready (rs := [3]) (by kernel_rfl) (by simp) ?_
        refine (AllReadyH.cons (o := { dst := some 83, op := Op.call { callee := Callee.value (Operand.func 12), args := #[Operand.tmp 82], argTypes := #[26] }, type := 36, pos := "exact.go:6111", after := #[{ on := 2, ground := Ground.data }, { on := 1, ground := Ground.chain }], guard := none }) rfl (fun K hK => ?_) AllReadyH.nil)
        · go_simp
          refine (KT1.out _ HR.out.st.1).mono ?_
          rintro e wn12 ⟨Zc1, Yc1, rfl, Ic, hb⟩
          have H2 := Lib.hid (HR.out.resV Ic hb)
          clear HR; have HR := H2; clear H2 hb
          clear HS; have HS := HR.out.st
          refine hK.out _ _ HS (fun _ => ?_)
          clear hK K
          try simp only [Act.put, List.setIfInBounds_toArray, List.set_cons_zero, List.set_cons_succ]
          refine wpAnyH_ready (rs := [4]) (by kernel_rfl) (by simp) ?_
          refine (AllReadyH.cons (o := { dst := some 84, op := Op.call { callee := Callee.value (Operand.func 13), args := #[Operand.tmp 81, Operand.tmp 83], argTypes := #[28, 36] }, type := 33, pos := "exact.go:6111", after := #[{ on := 1, ground := Ground.data }, { on := 3, ground := Ground.data }, { on := 3, ground := Ground.chain }], guard := none }) rfl (fun K hK => ?_) AllReadyH.nil)
          · go_simp
            refine (KG2.out _ _ _ (HR.out.v1) (HR.out.v2)).mono ?_
            rintro e wn13 ⟨Zr, Yr, Cr, Dr, rfl, Ir, hb⟩
            have H2 := Lib.hid ((HR.out.resM Ir hb).skip)
            clear HR; have HR := H2; clear H2 hb
            clear HS; have HS := HR.out.st
            refine hK.out _ _ HS (fun _ => ?_)
            clear hK K
            try simp only [Act.put, List.setIfInBounds_toArray, List.set_cons_zero, List.set_cons_succ]
            refine wpAnyH_take (i := 5) (oi := { dst := some 79, op := Op.move (Operand.tmp 84), type := 33, pos := "exact.go:6111", after := #[{ on := 4, ground := Ground.data }], guard := none }) (v := .tuple #[.agg #[.int .i64 tR, .int .i64 aR, .int .i64 uR, .slice Zr acR.length Cr, .slice Yr nxR.length Dr], .int .i64 q]) rfl (by kernel_rfl) (by kernel_rfl) (by kernel_rfl) (fun _ _ _ h => h) (Or.inl ⟨rfl, fun W hW => by (obtain ⟨_, y0_, y1_, y2_, y3_, y4_, y5_, y6_, y7_, y8_, y9_, y10_, y11_, y12_, y13_, y14_, y15_, _⟩ := hW; go_simp; try rfl)⟩) HS ?_
            try simp only [Act.put, List.setIfInBounds_toArray, List.set_cons_zero, List.set_cons_succ]
            refine wpAnyH_take (i := 6) (oi := { dst := some 85, op := Op.extract (Operand.tmp 79) 0, type := 32, pos := "exact.go:6111", after := #[{ on := 5, ground := Ground.data }], guard := none }) (v := .agg #[.int .i64 tR, .int .i64 aR, .int .i64 uR, .slice Zr acR.length Cr, .slice Yr nxR.length Dr]) rfl (by kernel_rfl) (by kernel_rfl) (by kernel_rfl) (fun _ _ _ h => h) (Or.inl ⟨rfl, fun W hW => by (obtain ⟨_, y0_, y1_, y2_, y3_, y4_, y5_, y6_, y7_, y8_, y9_, y10_, y11_, y12_, y13_, y14_, y15_, _⟩ := hW; go_simp; try rfl)⟩) HS ?_
            try simp only [Act.put, List.setIfInBounds_toArray, List.set_cons_zero, List.set_cons_succ]
            refine wpAnyH_take (i := 7) (oi := { dst := some 86, op := Op.extract (Operand.tmp 79) 1, type := 2, pos := "exact.go:6111", after := #[{ on := 5, ground := Ground.data }, { on := 9, ground := Ground.gcOnly Departure.lateStores }], guard := none }) (v := .int .i64 q) rfl (by kernel_rfl) (by kernel_rfl) (by kernel_rfl) (fun _ _ _ h => h) (Or.inl ⟨rfl, fun W hW => by (obtain ⟨_, y0_, y1_, y2_, y3_, y4_, y5_, y6_, y7_, y8_, y9_, y10_, y11_, y12_, y13_, y14_, y15_, _⟩ := hW; go_simp; try rfl)⟩) HS ?_
            try simp only [Act.put, List.setIfInBounds_toArray, List.set_cons_zero, List.set_cons_succ]
            obtain ⟨c0, c1, c2, c3, c4, g0, g1, g2, g3, g4⟩ := HR.out.facts5
            refine wpAnyH_ready (rs := [9]) (by kernel_rfl) (by simp) ?_
            refine AllReadyH.cons (o := { dst := none, op := Op.store 32 (Operand.tmp 14) (Operand.tmp 85), type := 0, pos := "exact.go:6111", after := #[{ on := 8, ground := Ground.data }, { on := 6, ground := Ground.data }, { on := 4, ground := Ground.chain }, { on := 0, ground := Ground.phase }, { on := 1, ground := Ground.phase }, { on := 2, ground := Ground.phase }, { on := 3, ground := Ground.phase }, { on := 4, ground := Ground.phase }, { on := 5, ground := Ground.phase }, { on := 6, ground := Ground.phase }, { on := 7, ground := Ground.textOnly Departure.lateStores }, { on := 8, ground := Ground.phase }], guard := none }) rfl (fun K hK => ?_) AllReadyH.nil
            go_simp
            have HS' : St w [(bq3, 0, .int .i64 tR), (bq3, 1, .int .i64 aR), (bq3, 2, .int .i64 uR), (bq3, 3, .slice Zq3 acR.length Cq3), (bq3, 4, .slice Yq3 nxR.length Dq3), (wd1.heap.size, 0, .slice Zd1 p1.length p1.length), (wd1.heap.size, 1, .slice Yd1 r1.length r1.length), (bq1, 0, .int .i64 tR), (bq1, 1, .int .i64 aR), (bq1, 2, .int .i64 uR), (bq1, 3, .slice Zq1 acR.length Cq1), (bq1, 4, .slice Yq1 nxR.length Dq1), (w.heap.size, 0, .int .i64 t0), (w.heap.size, 1, .int .i64 a0), (w.heap.size + 1, 0, .slice A1 p1.length C1), (w.heap.size + 1, 1, .slice B1 r1.length D1)] _ := (HR.out.fill5 (.int .i64 tR) (.int .i64 aR) (.int .i64 uR) (.slice Zr acR.length Cr) (.slice Yr nxR.length Dr)).st
            refine hK.out _ _ HS' (fun _ => ?_)
            clear hK K HS
            have HS := HS'; clear HS'
            try simp only [Act.put, List.setIfInBounds_toArray, List.set_cons_zero, List.set_cons_succ]
            refine wpAnyH_take (i := 10) (oi := { dst := some 15, op := Op.assign (Operand.tmp 86), type := 2, pos := "exact.go:6111", after := #[{ on := 7, ground := Ground.data }, { on := 9, ground := Ground.chain }, { on := 0, ground := Ground.phase }, { on := 1, ground := Ground.phase }, { on := 2, ground := Ground.phase }, { on := 3, ground := Ground.phase }, { on := 4, ground := Ground.phase }, { on := 5, ground := Ground.phase }, { on := 6, ground := Ground.phase }, { on := 7, ground := Ground.phase }, { on := 8, ground := Ground.phase }, { on := 9, ground := Ground.phase }], guard := none }) (v := .int .i64 q) rfl (by kernel_rfl) (by kernel_rfl) (by kernel_rfl) (fun _ _ _ h => h) (Or.inl ⟨rfl, fun W hW => by (obtain ⟨_, y0_, y1_, y2_, y3_, y4_, y5_, y6_, y7_, y8_, y9_, y10_, y11_, y12_, y13_, y14_, y15_, _⟩ := hW; go_simp; try rfl)⟩) HS ?_
            try simp only [Act.put, List.setIfInBounds_toArray, List.set_cons_zero, List.set_cons_succ]
            refine wpAnyH_done (by kernel_rfl) ?_ _
            clear HS
            go_wp2_with fail
            go_meet
            exact ⟨_, _, _, _, _, _, _, rfl, rfl, HR.out.done5 _ _ _ _ _⟩
  case rest =>
  obtain ⟨bq10, loq10, hiq10, Zq10, Yq10, Cq10, Dq10, rfl, rfl, T⟩ := hcut
  clear x0 x1 x2 x3 x4 x5 x6 x7 x8 x9 x10 x11 x12 x13 x14 x15 x16
  clear HR; have HR := Lib.hid T; clear T
  obtain ⟨x0, x1, x2, x3, x4, x5, x6, x7, x8, x9, x10, x11, x12, x13, x14, x15, x16, x17, x18, x19, x20, x21, _⟩ := HR.out.st
  go_wp2_with fail
  refine (KQ.out _ _ _ _ _ _ _ _ _ (HR.out.m1) (HR.out.m2) (HR.out.tl.tl.m1) (HR.out.tl.tl.m2)).mono ?_
  rintro e wq11 ⟨rfl, hb⟩
  have T := HR.out.below hb
  clear x0 x1 x2 x3 x4 x5 x6 x7 x8 x9 x10 x11 x12 x13 x14 x15 x16 x17 x18 x19 x20 x21
  clear HR hb; have HR := Lib.hid T; clear T
  obtain ⟨x0, x1, x2, x3, x4, x5, x6, x7, x8, x9, x10, x11, x12, x13, x14, x15, x16, x17, x18, x19, x20, x21, _⟩ := HR.out.st
  go_wp2_with fail
  refine (KH.out _ _ _ _ _ (HR.out.tl.m1) (HR.out.tl.m2)).mono ?_
  rintro e wh12 ⟨rfl, hb⟩
  have T := HR.out.below hb
  clear x0 x1 x2 x3 x4 x5 x6 x7 x8 x9 x10 x11 x12 x13 x14 x15 x16 x17 x18 x19 x20 x21
  clear HR hb; have HR := Lib.hid T; clear T
  obtain ⟨x0, x1, x2, x3, x4, x5, x6, x7, x8, x9, x10, x11, x12, x13, x14, x15, x16, x17, x18, x19, x20, x21, _⟩ := HR.out.st
  go_wp2_with fail
  go_ret
  exact ⟨rfl, HR.out.st.1⟩

end Go.Proofs.Ytojheipllpkgdaa
