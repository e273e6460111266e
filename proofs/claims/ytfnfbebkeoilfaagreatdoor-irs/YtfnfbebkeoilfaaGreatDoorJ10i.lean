/- The document's own irMay: kind 6. Written by refirgen.py. The document's own irMay: kind 7. Written by refirgen.py. The document's own irMay: kind 8. Written by refirgen.py. The document's own irMay: kind 9. Written by refirgen.py. The document's own irMay: kind 10. Written by refirgen.py. The document's own irMay: kind 11. Written by refirgen.py. The document's own irMay: no kind. Written by refcodegen.py. The document's own answer: may the instruction at a place be? Written by refcodegen.py. -/
import Derived.Test.YtfnfbebkeoilfaaGreatDoorJ10b
import Derived.Test.YtfnfbebkeoilfaaGreatDoorJ10g
import Derived.Lib.QuietBelow
namespace Go.Proofs.YtfnfbebkeoilfaaGreatDoor
open Go.RowKit
set_option linter.unusedVariables false

set_option maxRecDepth 100000 in
set_option maxHeartbeats 32000000 in
theorem refIr6_any (pa : Option Addr) (pn pc : Nat) (cn cc : Nat) (ma : Option Addr) (mn mc : Nat) (ps : List Fn) (cf rg : Int) (q : Nat) (b o : Nat) (r ra rb k : Int) (xa : Option Addr) (xn xc : Nat) (args : List Int) (cost mt ip : Int) (w : World) (hp : Fns w pa pn pc ps) (hq : q < cn) (hr : cn * 88 ≤ 140737488351232) (hcc : cn ≤ cc) (hm : mn * 24 ≤ 140737488351232)
    (e0 : w.cell? ⟨b, o + q * 9, none⟩ = some (.int .i64 6)) (e1 : w.cell? ⟨b, o + q * 9 + 1, none⟩ = some (.int .i64 r)) (e2 : w.cell? ⟨b, o + q * 9 + 2, none⟩ = some (.int .i64 ra)) (e3 : w.cell? ⟨b, o + q * 9 + 3, none⟩ = some (.int .i64 rb)) (e4 : w.cell? ⟨b, o + q * 9 + 4, none⟩ = some (.int .i64 k)) (e5 : w.cell? ⟨b, o + q * 9 + 5, none⟩ = some (.slice xa xn xc)) (e6 : w.cell? ⟨b, o + q * 9 + 6, none⟩ = some (.int .i64 cost)) (e7 : w.cell? ⟨b, o + q * 9 + 7, none⟩ = some (.int .i64 mt)) (e8 : w.cell? ⟨b, o + q * 9 + 8, none⟩ = some (.int .i64 ip)) (hx : Ints w xa xn xc args) :
    Calls Tryz.prog 21 #[.agg #[.slice pa pn pc], .agg #[.int .i64 cf, .int .i64 rg, .slice (some ⟨b, o, none⟩) cn cc, .slice ma mn mc], .int .i64 (q : Int)] w fun e w' => e = .returned (.bool (irB ps rg cn mn q (6, r, ra, rb, k, args, cost, mt, ip))) ∧ Below w.heap.size w w' := by
  have EK : Hid (irB ps rg cn mn q (6, r, ra, rb, k, args, cost, mt, ip) = (headI cost ip && ((regB rg r && (inB ps.length k && (decide (0 < cost) && (decide ((args.length : Int) = (ps.getD k.toNat noFn).1) && args.all (regB rg))))) && decide ((r, ra, rb, k, args, mt) = (r, 0, 0, k, args, 0))))) := hid irB_k6
  have z := lt_of_cell e0
  have HP := hid hp
  have LP := hid hp.len
  have hpr := hp.room
  have LX := hid hx.len
  have hxr := hx.room
  have HX := hid hx
  clear hp hx
  go_enter Tryz.func21, Tryz.ntmps21
  go_upto_region 3 with fail
  refine wp_name ?_
  intro U hU
  have B : Hid (Below w.heap.size w U) := hid (by rw [hU]; go_grown)
  have p0 : U.cell? ⟨w.heap.size, 0, none⟩ = some (.slice pa pn pc) := by rw [hU]; simp [go_sem]
  have c0 : U.cell? ⟨w.heap.size + 1, 0, none⟩ = some (.int .i64 cf) := by rw [hU]; simp [go_sem]
  have c1 : U.cell? ⟨w.heap.size + 1, 1, none⟩ = some (.int .i64 rg) := by rw [hU]; simp [go_sem]
  have c2 : U.cell? ⟨w.heap.size + 1, 2, none⟩ = some (.slice (some ⟨b, o, none⟩) cn cc) := by rw [hU]; simp [go_sem]
  have c3 : U.cell? ⟨w.heap.size + 1, 3, none⟩ = some (.slice ma mn mc) := by rw [hU]; simp [go_sem]
  have x0 : U.cell? ⟨w.heap.size + 1 + 1, 0, none⟩ = some (.int .i64 6) := by rw [hU]; simp [go_sem]
  have x1 : U.cell? ⟨w.heap.size + 1 + 1, 1, none⟩ = some (.int .i64 r) := by rw [hU]; simp [go_sem]
  have x2 : U.cell? ⟨w.heap.size + 1 + 1, 2, none⟩ = some (.int .i64 ra) := by rw [hU]; simp [go_sem]
  have x3 : U.cell? ⟨w.heap.size + 1 + 1, 3, none⟩ = some (.int .i64 rb) := by rw [hU]; simp [go_sem]
  have x4 : U.cell? ⟨w.heap.size + 1 + 1, 4, none⟩ = some (.int .i64 k) := by rw [hU]; simp [go_sem]
  have x5 : U.cell? ⟨w.heap.size + 1 + 1, 5, none⟩ = some (.slice xa xn xc) := by rw [hU]; simp [go_sem]
  have x6 : U.cell? ⟨w.heap.size + 1 + 1, 6, none⟩ = some (.int .i64 cost) := by rw [hU]; simp [go_sem]
  have x7 : U.cell? ⟨w.heap.size + 1 + 1, 7, none⟩ = some (.int .i64 mt) := by rw [hU]; simp [go_sem]
  have x8 : U.cell? ⟨w.heap.size + 1 + 1, 8, none⟩ = some (.int .i64 ip) := by rw [hU]; simp [go_sem]
  have y0 : U.cell? ⟨w.heap.size + 1 + 1 + 1, 0, none⟩ = some (.int .i64 6) := by rw [hU]; simp [go_sem]
  have y1 : U.cell? ⟨w.heap.size + 1 + 1 + 1, 1, none⟩ = some (.int .i64 0) := by rw [hU]; simp [go_sem]
  have y2 : U.cell? ⟨w.heap.size + 1 + 1 + 1, 2, none⟩ = some (.int .i64 0) := by rw [hU]; simp [go_sem]
  have y3 : U.cell? ⟨w.heap.size + 1 + 1 + 1, 3, none⟩ = some (.int .i64 0) := by rw [hU]; simp [go_sem]
  have y4 : U.cell? ⟨w.heap.size + 1 + 1 + 1, 4, none⟩ = some (.int .i64 0) := by rw [hU]; simp [go_sem]
  have y5 : U.cell? ⟨w.heap.size + 1 + 1 + 1, 5, none⟩ = some (.slice none 0 0) := by rw [hU]; simp [go_sem]
  have y6 : U.cell? ⟨w.heap.size + 1 + 1 + 1, 6, none⟩ = some (.int .i64 cost) := by rw [hU]; simp [go_sem]
  have y7 : U.cell? ⟨w.heap.size + 1 + 1 + 1, 7, none⟩ = some (.int .i64 0) := by rw [hU]; simp [go_sem]
  have y8 : U.cell? ⟨w.heap.size + 1 + 1 + 1, 8, none⟩ = some (.int .i64 ip) := by rw [hU]; simp [go_sem]
  have yf : ∀ j, U.frozen? ⟨w.heap.size + 1 + 1 + 1, j, none⟩ = false := by intro j; rw [hU]; simp [go_sem]
  clear hU e0 e1 e2 e3 e4 e5 e6 e7 e8
  by_cases k0 : 0 ≤ cost
  rotate_left
  · have k0' : decide (0 ≤ cost) = false := by simpa using k0
    have F : Hid (irB ps rg cn mn q (6, r, ra, rb, k, args, cost, mt, ip) = false) := hid (by rw [EK.out, show headI cost ip = false by unfold headI; exact decide_eq_false (by omega)]; rfl)
    go_wp2_with fail
    go_loopw [9, 11] (fun ov i wr => ∃ j : Nat, j ≤ xn ∧ ov = .bool false ∧ i = .int .i64 j ∧ wr.cell? ⟨w.heap.size + 1 + 1, 5, none⟩ = some (.slice xa xn xc) ∧ Below w.heap.size w wr) (fun _ i _ => xn - (intOf i).toNat)
    case atStart => exact ⟨0, Nat.zero_le _, rfl, rfl, by first | exact x5 | simp [go_sem, x5], by repeat (first | exact B.out | refine Below.setCell ?_ (by simp; omega) _)⟩
    case round =>
      obtain ⟨j, hj, rfl, rfl, x5', hb⟩ := hrel
      by_cases hlt : j < xn
      · go_upto_region 39 with fail
        refine wp_region_quiet_below (by kernel_rfl) (by kernel_rfl) ?_
        repeat (go_big_quiet_step (fail))
        refine wpQuiet_nil ?_
        intro _ hw'
        obtain ⟨⟨dq, osq⟩, hw''⟩ := hw'
        subst hw''
        go_wp2_with fail
        go_roundw
        case rel => exact ⟨j + 1, by omega, rfl, by go_num, kept_cell (below_regrown _ _ _) x5', kt hb (below_regrown _ _ _)⟩
        case measure => simp [intOf]; omega
      · go_wp2_with fail
        go_ret
        exact ⟨ret_bool F.out.symm, hb⟩
  by_cases k1 : cost ≤ 256
  rotate_left
  · have k1' : decide (cost ≤ 256) = false := by simpa using k1
    have F : Hid (irB ps rg cn mn q (6, r, ra, rb, k, args, cost, mt, ip) = false) := hid (by rw [EK.out, show headI cost ip = false by unfold headI; exact decide_eq_false (by omega)]; rfl)
    go_wp2_with fail
    go_loopw [9, 11] (fun ov i wr => ∃ j : Nat, j ≤ xn ∧ ov = .bool false ∧ i = .int .i64 j ∧ wr.cell? ⟨w.heap.size + 1 + 1, 5, none⟩ = some (.slice xa xn xc) ∧ Below w.heap.size w wr) (fun _ i _ => xn - (intOf i).toNat)
    case atStart => exact ⟨0, Nat.zero_le _, rfl, rfl, by first | exact x5 | simp [go_sem, x5], by repeat (first | exact B.out | refine Below.setCell ?_ (by simp; omega) _)⟩
    case round =>
      obtain ⟨j, hj, rfl, rfl, x5', hb⟩ := hrel
      by_cases hlt : j < xn
      · go_upto_region 39 with fail
        refine wp_region_quiet_below (by kernel_rfl) (by kernel_rfl) ?_
        repeat (go_big_quiet_step (fail))
        refine wpQuiet_nil ?_
        intro _ hw'
        obtain ⟨⟨dq, osq⟩, hw''⟩ := hw'
        subst hw''
        go_wp2_with fail
        go_roundw
        case rel => exact ⟨j + 1, by omega, rfl, by go_num, kept_cell (below_regrown _ _ _) x5', kt hb (below_regrown _ _ _)⟩
        case measure => simp [intOf]; omega
      · go_wp2_with fail
        go_ret
        exact ⟨ret_bool F.out.symm, hb⟩
  by_cases k2 : 0 ≤ ip
  rotate_left
  · have k2' : decide (0 ≤ ip) = false := by simpa using k2
    have F : Hid (irB ps rg cn mn q (6, r, ra, rb, k, args, cost, mt, ip) = false) := hid (by rw [EK.out, show headI cost ip = false by unfold headI; exact decide_eq_false (by omega)]; rfl)
    go_wp2_with fail
    go_loopw [9, 11] (fun ov i wr => ∃ j : Nat, j ≤ xn ∧ ov = .bool false ∧ i = .int .i64 j ∧ wr.cell? ⟨w.heap.size + 1 + 1, 5, none⟩ = some (.slice xa xn xc) ∧ Below w.heap.size w wr) (fun _ i _ => xn - (intOf i).toNat)
    case atStart => exact ⟨0, Nat.zero_le _, rfl, rfl, by first | exact x5 | simp [go_sem, x5], by repeat (first | exact B.out | refine Below.setCell ?_ (by simp; omega) _)⟩
    case round =>
      obtain ⟨j, hj, rfl, rfl, x5', hb⟩ := hrel
      by_cases hlt : j < xn
      · go_upto_region 39 with fail
        refine wp_region_quiet_below (by kernel_rfl) (by kernel_rfl) ?_
        repeat (go_big_quiet_step (fail))
        refine wpQuiet_nil ?_
        intro _ hw'
        obtain ⟨⟨dq, osq⟩, hw''⟩ := hw'
        subst hw''
        go_wp2_with fail
        go_roundw
        case rel => exact ⟨j + 1, by omega, rfl, by go_num, kept_cell (below_regrown _ _ _) x5', kt hb (below_regrown _ _ _)⟩
        case measure => simp [intOf]; omega
      · go_wp2_with fail
        go_ret
        exact ⟨ret_bool F.out.symm, hb⟩
  by_cases k3 : ip < 64
  rotate_left
  · have k3' : decide (ip < 64) = false := by simpa using k3
    have F : Hid (irB ps rg cn mn q (6, r, ra, rb, k, args, cost, mt, ip) = false) := hid (by rw [EK.out, show headI cost ip = false by unfold headI; exact decide_eq_false (by omega)]; rfl)
    go_wp2_with fail
    go_loopw [9, 11] (fun ov i wr => ∃ j : Nat, j ≤ xn ∧ ov = .bool false ∧ i = .int .i64 j ∧ wr.cell? ⟨w.heap.size + 1 + 1, 5, none⟩ = some (.slice xa xn xc) ∧ Below w.heap.size w wr) (fun _ i _ => xn - (intOf i).toNat)
    case atStart => exact ⟨0, Nat.zero_le _, rfl, rfl, by first | exact x5 | simp [go_sem, x5], by repeat (first | exact B.out | refine Below.setCell ?_ (by simp; omega) _)⟩
    case round =>
      obtain ⟨j, hj, rfl, rfl, x5', hb⟩ := hrel
      by_cases hlt : j < xn
      · go_upto_region 39 with fail
        refine wp_region_quiet_below (by kernel_rfl) (by kernel_rfl) ?_
        repeat (go_big_quiet_step (fail))
        refine wpQuiet_nil ?_
        intro _ hw'
        obtain ⟨⟨dq, osq⟩, hw''⟩ := hw'
        subst hw''
        go_wp2_with fail
        go_roundw
        case rel => exact ⟨j + 1, by omega, rfl, by go_num, kept_cell (below_regrown _ _ _) x5', kt hb (below_regrown _ _ _)⟩
        case measure => simp [intOf]; omega
      · go_wp2_with fail
        go_ret
        exact ⟨ret_bool F.out.symm, hb⟩
  have k3' : decide (ip < 64) = true := by simpa using k3
  have hd : headI cost ip = true := by unfold headI; exact decide_eq_true (by omega)
  have E1 : Hid (irB ps rg cn mn q (6, r, ra, rb, k, args, cost, mt, ip) = ((regB rg r && (inB ps.length k && (decide (0 < cost) && (decide ((args.length : Int) = (ps.getD k.toNat noFn).1) && args.all (regB rg))))) && decide ((r, ra, rb, k, args, mt) = (r, 0, 0, k, args, 0)))) := hid (by rw [EK.out, hd]; rfl)
  clear hd
  go_upto_region 34 with fail
  refine wp_name ?_
  intro V hV
  have BV : Hid (Below w.heap.size w V) := hid (by rw [hV]; repeat (first | exact B.out | refine Below.setCell ?_ (by simp; omega) _))
  have vp0 : V.cell? ⟨w.heap.size, 0, none⟩ = some (.slice pa pn pc) := by rw [hV]; simp [go_sem, p0]
  have vc0 : V.cell? ⟨w.heap.size + 1, 0, none⟩ = some (.int .i64 cf) := by rw [hV]; simp [go_sem, c0]
  have vc1 : V.cell? ⟨w.heap.size + 1, 1, none⟩ = some (.int .i64 rg) := by rw [hV]; simp [go_sem, c1]
  have vc2 : V.cell? ⟨w.heap.size + 1, 2, none⟩ = some (.slice (some ⟨b, o, none⟩) cn cc) := by rw [hV]; simp [go_sem, c2]
  have vc3 : V.cell? ⟨w.heap.size + 1, 3, none⟩ = some (.slice ma mn mc) := by rw [hV]; simp [go_sem, c3]
  have vx0 : V.cell? ⟨w.heap.size + 1 + 1, 0, none⟩ = some (.int .i64 6) := by rw [hV]; simp [go_sem, x0]
  have vx1 : V.cell? ⟨w.heap.size + 1 + 1, 1, none⟩ = some (.int .i64 r) := by rw [hV]; simp [go_sem, x1]
  have vx2 : V.cell? ⟨w.heap.size + 1 + 1, 2, none⟩ = some (.int .i64 ra) := by rw [hV]; simp [go_sem, x2]
  have vx3 : V.cell? ⟨w.heap.size + 1 + 1, 3, none⟩ = some (.int .i64 rb) := by rw [hV]; simp [go_sem, x3]
  have vx4 : V.cell? ⟨w.heap.size + 1 + 1, 4, none⟩ = some (.int .i64 k) := by rw [hV]; simp [go_sem, x4]
  have vx5 : V.cell? ⟨w.heap.size + 1 + 1, 5, none⟩ = some (.slice xa xn xc) := by rw [hV]; simp [go_sem, x5]
  have vx6 : V.cell? ⟨w.heap.size + 1 + 1, 6, none⟩ = some (.int .i64 cost) := by rw [hV]; simp [go_sem, x6]
  have vx7 : V.cell? ⟨w.heap.size + 1 + 1, 7, none⟩ = some (.int .i64 mt) := by rw [hV]; simp [go_sem, x7]
  have vx8 : V.cell? ⟨w.heap.size + 1 + 1, 8, none⟩ = some (.int .i64 ip) := by rw [hV]; simp [go_sem, x8]
  have vy0 : V.cell? ⟨w.heap.size + 1 + 1 + 1, 0, none⟩ = some (.int .i64 6) := by rw [hV]; simp [go_sem, y0]
  have vy1 : V.cell? ⟨w.heap.size + 1 + 1 + 1, 1, none⟩ = some (.int .i64 r) := by rw [hV]; simp [go_sem, y1]
  have vy2 : V.cell? ⟨w.heap.size + 1 + 1 + 1, 2, none⟩ = some (.int .i64 0) := by rw [hV]; simp [go_sem, y2]
  have vy3 : V.cell? ⟨w.heap.size + 1 + 1 + 1, 3, none⟩ = some (.int .i64 0) := by rw [hV]; simp [go_sem, y3]
  have vy4 : V.cell? ⟨w.heap.size + 1 + 1 + 1, 4, none⟩ = some (.int .i64 k) := by rw [hV]; simp [go_sem, y4]
  have vy5 : V.cell? ⟨w.heap.size + 1 + 1 + 1, 5, none⟩ = some (.slice none 0 0) := by rw [hV]; simp [go_sem, y5]
  have vy6 : V.cell? ⟨w.heap.size + 1 + 1 + 1, 6, none⟩ = some (.int .i64 cost) := by rw [hV]; simp [go_sem, y6]
  have vy7 : V.cell? ⟨w.heap.size + 1 + 1 + 1, 7, none⟩ = some (.int .i64 0) := by rw [hV]; simp [go_sem, y7]
  have vy8 : V.cell? ⟨w.heap.size + 1 + 1 + 1, 8, none⟩ = some (.int .i64 ip) := by rw [hV]; simp [go_sem, y8]
  clear hV p0 c0 c1 c2 c3 x0 x1 x2 x3 x4 x5 x6 x7 x8 y0 y1 y2 y3 y4 y5 y6 y7 y8 yf
  have p0 := vp0
  clear vp0
  have c0 := vc0
  clear vc0
  have c1 := vc1
  clear vc1
  have c2 := vc2
  clear vc2
  have c3 := vc3
  clear vc3
  have x0 := vx0
  clear vx0
  have x1 := vx1
  clear vx1
  have x2 := vx2
  clear vx2
  have x3 := vx3
  clear vx3
  have x4 := vx4
  clear vx4
  have x5 := vx5
  clear vx5
  have x6 := vx6
  clear vx6
  have x7 := vx7
  clear vx7
  have x8 := vx8
  clear vx8
  have y0 := vy0
  clear vy0
  have y1 := vy1
  clear vy1
  have y2 := vy2
  clear vy2
  have y3 := vy3
  clear vy3
  have y4 := vy4
  clear vy4
  have y5 := vy5
  clear vy5
  have y6 := vy6
  clear vy6
  have y7 := vy7
  clear vy7
  have y8 := vy8
  clear vy8
  go_wp2_with fail
  refine (refReg_any cf rg _ _ _ _ _ _ r _).mono ?_
  rintro e w1 ⟨rfl, b1⟩
  replace BV := hid (kt BV.out b1)
  replace p0 := kept_cell b1 p0
  replace c0 := kept_cell b1 c0
  replace c1 := kept_cell b1 c1
  replace c2 := kept_cell b1 c2
  replace c3 := kept_cell b1 c3
  replace x0 := kept_cell b1 x0
  replace x1 := kept_cell b1 x1
  replace x2 := kept_cell b1 x2
  replace x3 := kept_cell b1 x3
  replace x4 := kept_cell b1 x4
  replace x5 := kept_cell b1 x5
  replace x6 := kept_cell b1 x6
  replace x7 := kept_cell b1 x7
  replace x8 := kept_cell b1 x8
  replace y0 := kept_cell b1 y0
  replace y1 := kept_cell b1 y1
  replace y2 := kept_cell b1 y2
  replace y3 := kept_cell b1 y3
  replace y4 := kept_cell b1 y4
  replace y5 := kept_cell b1 y5
  replace y6 := kept_cell b1 y6
  replace y7 := kept_cell b1 y7
  replace y8 := kept_cell b1 y8
  clear b1
  cases h0 : regB rg r
  · have F0 : Hid (irB ps rg cn mn q (6, r, ra, rb, k, args, cost, mt, ip) = false) := hid (by rw [E1.out, h0]; rfl)
    clear h0
    have F : Hid (irB ps rg cn mn q (6, r, ra, rb, k, args, cost, mt, ip) = false) := hid (F0.out)
    go_wp2_with fail
    go_loopw [9, 11] (fun ov i wr => ∃ j : Nat, j ≤ xn ∧ ov = .bool false ∧ i = .int .i64 j ∧ wr.cell? ⟨w.heap.size + 1 + 1, 5, none⟩ = some (.slice xa xn xc) ∧ Below w.heap.size w wr) (fun _ i _ => xn - (intOf i).toNat)
    case atStart => exact ⟨0, Nat.zero_le _, rfl, rfl, by first | exact x5 | simp [go_sem, x5], by repeat (first | exact BV.out | refine Below.setCell ?_ (by simp; omega) _)⟩
    case round =>
      obtain ⟨j, hj, rfl, rfl, x5', hb⟩ := hrel
      by_cases hlt : j < xn
      · go_upto_region 39 with fail
        refine wp_region_quiet_below (by kernel_rfl) (by kernel_rfl) ?_
        repeat (go_big_quiet_step (fail))
        refine wpQuiet_nil ?_
        intro _ hw'
        obtain ⟨⟨dq, osq⟩, hw''⟩ := hw'
        subst hw''
        go_wp2_with fail
        go_roundw
        case rel => exact ⟨j + 1, by omega, rfl, by go_num, kept_cell (below_regrown _ _ _) x5', kt hb (below_regrown _ _ _)⟩
        case measure => simp [intOf]; omega
      · go_wp2_with fail
        go_ret
        exact ⟨ret_bool F.out.symm, hb⟩
  replace E1 : Hid (irB ps rg cn mn q (6, r, ra, rb, k, args, cost, mt, ip) = ((inB ps.length k && (decide (0 < cost) && (decide ((args.length : Int) = (ps.getD k.toNat noFn).1) && args.all (regB rg)))) && decide ((r, ra, rb, k, args, mt) = (r, 0, 0, k, args, 0)))) := hid (by rw [E1.out, h0]; rfl)
  clear h0
  by_cases g1 : 0 ≤ k
  rotate_left
  · have g1' : decide (0 ≤ k) = false := by simpa using g1
    have F : Hid (irB ps rg cn mn q (6, r, ra, rb, k, args, cost, mt, ip) = false) := hid (by rw [E1.out, show inB ps.length k = false by unfold inB; exact decide_eq_false (by omega)]; rfl)
    go_wp2_with fail
    go_loopw [9, 11] (fun ov i wr => ∃ j : Nat, j ≤ xn ∧ ov = .bool false ∧ i = .int .i64 j ∧ wr.cell? ⟨w.heap.size + 1 + 1, 5, none⟩ = some (.slice xa xn xc) ∧ Below w.heap.size w wr) (fun _ i _ => xn - (intOf i).toNat)
    case atStart => exact ⟨0, Nat.zero_le _, rfl, rfl, by first | exact x5 | simp [go_sem, x5], by repeat (first | exact BV.out | refine Below.setCell ?_ (by simp; omega) _)⟩
    case round =>
      obtain ⟨j, hj, rfl, rfl, x5', hb⟩ := hrel
      by_cases hlt : j < xn
      · go_upto_region 39 with fail
        refine wp_region_quiet_below (by kernel_rfl) (by kernel_rfl) ?_
        repeat (go_big_quiet_step (fail))
        refine wpQuiet_nil ?_
        intro _ hw'
        obtain ⟨⟨dq, osq⟩, hw''⟩ := hw'
        subst hw''
        go_wp2_with fail
        go_roundw
        case rel => exact ⟨j + 1, by omega, rfl, by go_num, kept_cell (below_regrown _ _ _) x5', kt hb (below_regrown _ _ _)⟩
        case measure => simp [intOf]; omega
      · go_wp2_with fail
        go_ret
        exact ⟨ret_bool F.out.symm, hb⟩
  by_cases g2 : k < (pn : Int)
  rotate_left
  · have g2' : decide (k < (pn : Int)) = false := by simpa using g2
    have F : Hid (irB ps rg cn mn q (6, r, ra, rb, k, args, cost, mt, ip) = false) := hid (by rw [E1.out, show inB ps.length k = false by unfold inB; have := LP.out; exact decide_eq_false (by omega)]; rfl)
    go_wp2_with fail
    go_loopw [9, 11] (fun ov i wr => ∃ j : Nat, j ≤ xn ∧ ov = .bool false ∧ i = .int .i64 j ∧ wr.cell? ⟨w.heap.size + 1 + 1, 5, none⟩ = some (.slice xa xn xc) ∧ Below w.heap.size w wr) (fun _ i _ => xn - (intOf i).toNat)
    case atStart => exact ⟨0, Nat.zero_le _, rfl, rfl, by first | exact x5 | simp [go_sem, x5], by repeat (first | exact BV.out | refine Below.setCell ?_ (by simp; omega) _)⟩
    case round =>
      obtain ⟨j, hj, rfl, rfl, x5', hb⟩ := hrel
      by_cases hlt : j < xn
      · go_upto_region 39 with fail
        refine wp_region_quiet_below (by kernel_rfl) (by kernel_rfl) ?_
        repeat (go_big_quiet_step (fail))
        refine wpQuiet_nil ?_
        intro _ hw'
        obtain ⟨⟨dq, osq⟩, hw''⟩ := hw'
        subst hw''
        go_wp2_with fail
        go_roundw
        case rel => exact ⟨j + 1, by omega, rfl, by go_num, kept_cell (below_regrown _ _ _) x5', kt hb (below_regrown _ _ _)⟩
        case measure => simp [intOf]; omega
      · go_wp2_with fail
        go_ret
        exact ⟨ret_bool F.out.symm, hb⟩
  by_cases g3 : 0 < cost
  rotate_left
  · have g3' : decide (0 < cost) = false := by simpa using g3
    have F : Hid (irB ps rg cn mn q (6, r, ra, rb, k, args, cost, mt, ip) = false) := hid (by rw [E1.out, show decide (0 < cost) = false by exact decide_eq_false (by omega), Bool.false_and, Bool.and_false]; rfl)
    go_wp2_with fail
    go_loopw [9, 11] (fun ov i wr => ∃ j : Nat, j ≤ xn ∧ ov = .bool false ∧ i = .int .i64 j ∧ wr.cell? ⟨w.heap.size + 1 + 1, 5, none⟩ = some (.slice xa xn xc) ∧ Below w.heap.size w wr) (fun _ i _ => xn - (intOf i).toNat)
    case atStart => exact ⟨0, Nat.zero_le _, rfl, rfl, by first | exact x5 | simp [go_sem, x5], by repeat (first | exact BV.out | refine Below.setCell ?_ (by simp; omega) _)⟩
    case round =>
      obtain ⟨j, hj, rfl, rfl, x5', hb⟩ := hrel
      by_cases hlt : j < xn
      · go_upto_region 39 with fail
        refine wp_region_quiet_below (by kernel_rfl) (by kernel_rfl) ?_
        repeat (go_big_quiet_step (fail))
        refine wpQuiet_nil ?_
        intro _ hw'
        obtain ⟨⟨dq, osq⟩, hw''⟩ := hw'
        subst hw''
        go_wp2_with fail
        go_roundw
        case rel => exact ⟨j + 1, by omega, rfl, by go_num, kept_cell (below_regrown _ _ _) x5', kt hb (below_regrown _ _ _)⟩
        case measure => simp [intOf]; omega
      · go_wp2_with fail
        go_ret
        exact ⟨ret_bool F.out.symm, hb⟩
  obtain ⟨kN, rfl⟩ : ∃ kN : Nat, k = kN := ⟨k.toNat, by omega⟩
  have hkN : kN < pn := by omega
  obtain ⟨bp, op, gx, gy, ga, gn, gc, gl, rfl, e3, d0, d1, d2, i3⟩ := (HP.out.kept BV.out).at kN hkN
  replace E1 : Hid (irB ps rg cn mn q (6, r, ra, rb, (kN : Int), args, cost, mt, ip) = ((decide ((xn : Int) = gx) && args.all (regB rg)) && decide ((r, ra, rb, (kN : Int), args, mt) = (r, 0, 0, (kN : Int), args, 0)))) := hid (by
    rw [E1.out, show inB ps.length (kN : Int) = true by unfold inB; have := LP.out; exact decide_eq_true (by omega), show decide (0 < cost) = true from decide_eq_true g3, Int.toNat_natCast, e3, LX.out]; rfl)
  have g1' : (0 : Int) ≤ (kN : Int) := g1
  clear e3 d1 d2 i3
  by_cases hg : (xn : Int) = gx
  rotate_left
  · have hg' : ((xn : Int) == gx) = false := by simpa using hg
    have F : Hid (irB ps rg cn mn q (6, r, ra, rb, (kN : Int), args, cost, mt, ip) = false) := hid (by rw [E1.out, decide_eq_false hg]; rfl)
    go_wp2_with fail
    go_loopw [9, 11] (fun ov i wr => ∃ j : Nat, j ≤ xn ∧ ov = .bool false ∧ i = .int .i64 j ∧ wr.cell? ⟨w.heap.size + 1 + 1, 5, none⟩ = some (.slice xa xn xc) ∧ Below w.heap.size w wr) (fun _ i _ => xn - (intOf i).toNat)
    case atStart => exact ⟨0, Nat.zero_le _, rfl, rfl, by first | exact x5 | simp [go_sem, x5], by repeat (first | exact BV.out | refine Below.setCell ?_ (by simp; omega) _)⟩
    case round =>
      obtain ⟨j, hj, rfl, rfl, x5', hb⟩ := hrel
      by_cases hlt : j < xn
      · go_upto_region 39 with fail
        refine wp_region_quiet_below (by kernel_rfl) (by kernel_rfl) ?_
        repeat (go_big_quiet_step (fail))
        refine wpQuiet_nil ?_
        intro _ hw'
        obtain ⟨⟨dq, osq⟩, hw''⟩ := hw'
        subst hw''
        go_wp2_with fail
        go_roundw
        case rel => exact ⟨j + 1, by omega, rfl, by go_num, kept_cell (below_regrown _ _ _) x5', kt hb (below_regrown _ _ _)⟩
        case measure => simp [intOf]; omega
      · go_wp2_with fail
        go_ret
        exact ⟨ret_bool F.out.symm, hb⟩
  replace E1 : Hid (irB ps rg cn mn q (6, r, ra, rb, (kN : Int), args, cost, mt, ip) = (args.all (regB rg) && decide ((r, ra, rb, (kN : Int), args, mt) = (r, 0, 0, (kN : Int), args, 0)))) := hid (by rw [E1.out, decide_eq_true hg]; rfl)
  have hg' : ((xn : Int) == gx) = true := by simpa using hg
  clear hg
  go_wp2_with fail
  go_loopw [9, 11] (fun ov i wr => ∃ j : Nat, j ≤ xn ∧ ov = .bool ((args.take j).all (regB rg)) ∧ i = .int .i64 j ∧ wr.cell? ⟨w.heap.size, 0, none⟩ = some (.slice (some ⟨bp, op, none⟩) pn pc) ∧ wr.cell? ⟨w.heap.size + 1, 0, none⟩ = some (.int .i64 cf) ∧ wr.cell? ⟨w.heap.size + 1, 1, none⟩ = some (.int .i64 rg) ∧ wr.cell? ⟨w.heap.size + 1, 2, none⟩ = some (.slice (some ⟨b, o, none⟩) cn cc) ∧ wr.cell? ⟨w.heap.size + 1, 3, none⟩ = some (.slice ma mn mc) ∧ wr.cell? ⟨w.heap.size + 1 + 1, 0, none⟩ = some (.int .i64 6) ∧ wr.cell? ⟨w.heap.size + 1 + 1, 1, none⟩ = some (.int .i64 r) ∧ wr.cell? ⟨w.heap.size + 1 + 1, 2, none⟩ = some (.int .i64 ra) ∧ wr.cell? ⟨w.heap.size + 1 + 1, 3, none⟩ = some (.int .i64 rb) ∧ wr.cell? ⟨w.heap.size + 1 + 1, 4, none⟩ = some (.int .i64 (kN : Int)) ∧ wr.cell? ⟨w.heap.size + 1 + 1, 5, none⟩ = some (.slice xa xn xc) ∧ wr.cell? ⟨w.heap.size + 1 + 1, 6, none⟩ = some (.int .i64 cost) ∧ wr.cell? ⟨w.heap.size + 1 + 1, 7, none⟩ = some (.int .i64 mt) ∧ wr.cell? ⟨w.heap.size + 1 + 1, 8, none⟩ = some (.int .i64 ip) ∧ wr.cell? ⟨w.heap.size + 1 + 1 + 1, 0, none⟩ = some (.int .i64 6) ∧ wr.cell? ⟨w.heap.size + 1 + 1 + 1, 1, none⟩ = some (.int .i64 r) ∧ wr.cell? ⟨w.heap.size + 1 + 1 + 1, 2, none⟩ = some (.int .i64 0) ∧ wr.cell? ⟨w.heap.size + 1 + 1 + 1, 3, none⟩ = some (.int .i64 0) ∧ wr.cell? ⟨w.heap.size + 1 + 1 + 1, 4, none⟩ = some (.int .i64 (kN : Int)) ∧ wr.cell? ⟨w.heap.size + 1 + 1 + 1, 5, none⟩ = some (.slice none 0 0) ∧ wr.cell? ⟨w.heap.size + 1 + 1 + 1, 6, none⟩ = some (.int .i64 cost) ∧ wr.cell? ⟨w.heap.size + 1 + 1 + 1, 7, none⟩ = some (.int .i64 0) ∧ wr.cell? ⟨w.heap.size + 1 + 1 + 1, 8, none⟩ = some (.int .i64 ip) ∧ Below w.heap.size w wr) (fun _ i _ => xn - (intOf i).toNat)
  case atStart => exact ⟨0, Nat.zero_le _, rfl, rfl, p0, c0, c1, c2, c3, x0, x1, x2, x3, x4, x5, x6, x7, x8, y0, y1, y2, y3, y4, y5, y6, y7, y8, BV.out⟩
  case round =>
    clear p0 c0 c1 c2 c3 x0 x1 x2 x3 x4 x5 x6 x7 x8 y0 y1 y2 y3 y4 y5 y6 y7 y8 BV B d0
    obtain ⟨j, hj, rfl, rfl, p0, c0, c1, c2, c3, x0, x1, x2, x3, x4, x5, x6, x7, x8, y0, y1, y2, y3, y4, y5, y6, y7, y8, hb⟩ := hrel
    by_cases hlt : j < xn
    · obtain ⟨bx, ox, rfl, rx⟩ := (HX.out.kept hb).row (by omega)
      have cx := rx j hlt
      have hx0 : args[j]? = some (args.getD j 0) := by rw [List.getD_eq_getElem?_getD, List.getElem?_eq_getElem (by have := LX.out; omega)]; rfl
      generalize args.getD j 0 = y at cx hx0
      have TK : Hid ((args.take (j + 1)).all (regB rg) = ((args.take j).all (regB rg) && regB rg y)) := hid (by rw [List.take_add_one, List.all_append, hx0]; simp)
      clear hx0 rx
      have gcx := cell_regrown cx
      have gc0 := cell_regrown c0
      have gc1 := cell_regrown c1
      have gc2 := cell_regrown c2
      have gc3 := cell_regrown c3
      have gx5 := cell_regrown x5
      have j0 : (0 : Int) ≤ (j : Int) := by omega
      have j1 : (j : Int) < (xn : Int) := by omega
      cases ho : (args.take j).all (regB rg)
      · have TN : Hid ((args.take (j + 1)).all (regB rg) = false) := hid (by rw [TK.out, ho]; rfl)
        clear ho
        go_upto_region 39 with fail
        refine wp_region_quiet_below (by kernel_rfl) (by kernel_rfl) ?_
        repeat (go_big_quiet_step (fail))
        refine wpQuiet_nil ?_
        intro _ hw'
        obtain ⟨⟨dq, osq⟩, hw''⟩ := hw'
        subst hw''
        go_wp2_with fail
        go_roundw
        case rel => exact ⟨j + 1, by omega, by rw [TN.out], by go_num, kept_cell (below_regrown _ _ _) p0, kept_cell (below_regrown _ _ _) c0, kept_cell (below_regrown _ _ _) c1, kept_cell (below_regrown _ _ _) c2, kept_cell (below_regrown _ _ _) c3, kept_cell (below_regrown _ _ _) x0, kept_cell (below_regrown _ _ _) x1, kept_cell (below_regrown _ _ _) x2, kept_cell (below_regrown _ _ _) x3, kept_cell (below_regrown _ _ _) x4, kept_cell (below_regrown _ _ _) x5, kept_cell (below_regrown _ _ _) x6, kept_cell (below_regrown _ _ _) x7, kept_cell (below_regrown _ _ _) x8, kept_cell (below_regrown _ _ _) y0, kept_cell (below_regrown _ _ _) y1, kept_cell (below_regrown _ _ _) y2, kept_cell (below_regrown _ _ _) y3, kept_cell (below_regrown _ _ _) y4, kept_cell (below_regrown _ _ _) y5, kept_cell (below_regrown _ _ _) y6, kept_cell (below_regrown _ _ _) y7, kept_cell (below_regrown _ _ _) y8, kt hb (below_regrown _ _ _)⟩
        case measure => simp [intOf]; omega
      · have TN : Hid ((args.take (j + 1)).all (regB rg) = regB rg y) := hid (by rw [TK.out, ho]; rfl)
        clear ho
        go_upto_region 39 with fail
        refine wp_region_quiet_below (by kernel_rfl) (by kernel_rfl) ?_
        repeat (go_big_quiet_step (first | (go_at_call 38; exact Calls.regrown_of (refReg_any cf rg _ _ _ _ _ _ y _))))
        refine wpQuiet_nil ?_
        intro _ hw'
        obtain ⟨⟨dq, osq⟩, hw''⟩ := hw'
        subst hw''
        go_wp2_with fail
        go_roundw
        case rel => exact ⟨j + 1, by omega, by rw [TN.out], by go_num, kept_cell (below_regrown _ _ _) p0, kept_cell (below_regrown _ _ _) c0, kept_cell (below_regrown _ _ _) c1, kept_cell (below_regrown _ _ _) c2, kept_cell (below_regrown _ _ _) c3, kept_cell (below_regrown _ _ _) x0, kept_cell (below_regrown _ _ _) x1, kept_cell (below_regrown _ _ _) x2, kept_cell (below_regrown _ _ _) x3, kept_cell (below_regrown _ _ _) x4, kept_cell (below_regrown _ _ _) x5, kept_cell (below_regrown _ _ _) x6, kept_cell (below_regrown _ _ _) x7, kept_cell (below_regrown _ _ _) x8, kept_cell (below_regrown _ _ _) y0, kept_cell (below_regrown _ _ _) y1, kept_cell (below_regrown _ _ _) y2, kept_cell (below_regrown _ _ _) y3, kept_cell (below_regrown _ _ _) y4, kept_cell (below_regrown _ _ _) y5, kept_cell (below_regrown _ _ _) y6, kept_cell (below_regrown _ _ _) y7, kept_cell (below_regrown _ _ _) y8, kt hb (below_regrown _ _ _)⟩
        case measure => simp [intOf]; omega
    · have hjn : j = xn := by omega
      subst hjn
      have ha : (args.take j).all (regB rg) = args.all (regB rg) := by rw [List.take_of_length_le (by have := LX.out; omega)]
      rw [ha]
      clear ha
      cases hall : args.all (regB rg)
      · have F : Hid (irB ps rg cn mn q (6, r, ra, rb, (kN : Int), args, cost, mt, ip) = false) := hid (by rw [E1.out, hall]; rfl)
        clear hall
        go_wp2_with fail
        go_ret
        exact ⟨ret_bool F.out.symm, hb⟩
      · have E2 : Hid (irB ps rg cn mn q (6, r, ra, rb, (kN : Int), args, cost, mt, ip) = decide ((r, ra, rb, (kN : Int), args, mt) = (r, 0, 0, (kN : Int), args, 0))) := hid (by rw [E1.out, hall]; rfl)
        clear hall
        go_upto_region 53 with fail
        by_cases n0 : ra = 0
        rotate_left
        · have F : Hid (irB ps rg cn mn q (6, r, ra, rb, (kN : Int), args, cost, mt, ip) = false) := hid (by rw [E2.out]; refine decide_eq_false (fun e => ?_); simp only [Prod.mk.injEq] at e; exact n0 (by simpa using e.2.1))
          have n0' : (ra == 0) = false := by simp; omega
          go_wp2_with fail
          go_ret
          exact ⟨ret_bool F.out.symm, hb⟩
        have n0' : (ra == 0) = true := by simp; omega
        have N0 := hid n0
        clear n0
        by_cases n1 : rb = 0
        rotate_left
        · have F : Hid (irB ps rg cn mn q (6, r, ra, rb, (kN : Int), args, cost, mt, ip) = false) := hid (by rw [E2.out]; refine decide_eq_false (fun e => ?_); simp only [Prod.mk.injEq] at e; exact n1 (by simpa using e.2.2.1))
          have n1' : (rb == 0) = false := by simp; omega
          go_wp2_with fail
          go_ret
          exact ⟨ret_bool F.out.symm, hb⟩
        have n1' : (rb == 0) = true := by simp; omega
        have N1 := hid n1
        clear n1
        by_cases n2 : mt = 0
        rotate_left
        · have F : Hid (irB ps rg cn mn q (6, r, ra, rb, (kN : Int), args, cost, mt, ip) = false) := hid (by rw [E2.out]; refine decide_eq_false (fun e => ?_); simp only [Prod.mk.injEq] at e; exact n2 (by simpa using e.2.2.2.2.2))
          have n2' : (mt == 0) = false := by simp; omega
          go_wp2_with fail
          go_ret
          exact ⟨ret_bool F.out.symm, hb⟩
        have n2' : (mt == 0) = true := by simp; omega
        have N2 := hid n2
        clear n2
        have F : Hid (irB ps rg cn mn q (6, r, ra, rb, (kN : Int), args, cost, mt, ip) = true) := hid (by
          rw [E2.out]
          refine decide_eq_true ?_
          rw [N0.out, N1.out, N2.out])
        go_wp2_with fail
        go_ret
        exact ⟨ret_bool F.out.symm, hb⟩

end Go.Proofs.YtfnfbebkeoilfaaGreatDoor

namespace Go.Proofs.YtfnfbebkeoilfaaGreatDoor
open Go.RowKit
set_option linter.unusedVariables false

set_option maxRecDepth 100000 in
set_option maxHeartbeats 16000000 in
theorem refIr7_any (pa : Option Addr) (pn pc : Nat) (cn cc : Nat) (ma : Option Addr) (mn mc : Nat) (ps : List Fn) (cf rg : Int) (q : Nat) (b o : Nat) (r ra rb k : Int) (xa : Option Addr) (xn xc : Nat) (args : List Int) (cost mt ip : Int) (w : World) (hp : Fns w pa pn pc ps) (hq : q < cn) (hr : cn * 88 ≤ 140737488351232) (hcc : cn ≤ cc) (hm : mn * 24 ≤ 140737488351232)
    (e0 : w.cell? ⟨b, o + q * 9, none⟩ = some (.int .i64 7)) (e1 : w.cell? ⟨b, o + q * 9 + 1, none⟩ = some (.int .i64 r)) (e2 : w.cell? ⟨b, o + q * 9 + 2, none⟩ = some (.int .i64 ra)) (e3 : w.cell? ⟨b, o + q * 9 + 3, none⟩ = some (.int .i64 rb)) (e4 : w.cell? ⟨b, o + q * 9 + 4, none⟩ = some (.int .i64 k)) (e5 : w.cell? ⟨b, o + q * 9 + 5, none⟩ = some (.slice xa xn xc)) (e6 : w.cell? ⟨b, o + q * 9 + 6, none⟩ = some (.int .i64 cost)) (e7 : w.cell? ⟨b, o + q * 9 + 7, none⟩ = some (.int .i64 mt)) (e8 : w.cell? ⟨b, o + q * 9 + 8, none⟩ = some (.int .i64 ip)) (hx : Ints w xa xn xc args) :
    Calls Tryz.prog 21 #[.agg #[.slice pa pn pc], .agg #[.int .i64 cf, .int .i64 rg, .slice (some ⟨b, o, none⟩) cn cc, .slice ma mn mc], .int .i64 (q : Int)] w fun e w' => e = .returned (.bool (irB ps rg cn mn q (7, r, ra, rb, k, args, cost, mt, ip))) ∧ Below w.heap.size w w' := by
  have EK : Hid (irB ps rg cn mn q (7, r, ra, rb, k, args, cost, mt, ip) = (headI cost ip && ((regB rg ra && decide (0 < cost)) && decide ((r, ra, rb, k, args, mt) = (0, ra, 0, 0, [], 0))))) := hid irB_k7
  have z := lt_of_cell e0
  have HP := hid hp
  have LP := hid hp.len
  have hpr := hp.room
  have LX := hid hx.len
  have hxr := hx.room
  have HX := hid hx
  clear hp hx
  go_enter Tryz.func21, Tryz.ntmps21
  go_upto_region 3 with fail
  refine wp_name ?_
  intro U hU
  have B : Hid (Below w.heap.size w U) := hid (by rw [hU]; go_grown)
  have p0 : U.cell? ⟨w.heap.size, 0, none⟩ = some (.slice pa pn pc) := by rw [hU]; simp [go_sem]
  have c0 : U.cell? ⟨w.heap.size + 1, 0, none⟩ = some (.int .i64 cf) := by rw [hU]; simp [go_sem]
  have c1 : U.cell? ⟨w.heap.size + 1, 1, none⟩ = some (.int .i64 rg) := by rw [hU]; simp [go_sem]
  have c2 : U.cell? ⟨w.heap.size + 1, 2, none⟩ = some (.slice (some ⟨b, o, none⟩) cn cc) := by rw [hU]; simp [go_sem]
  have c3 : U.cell? ⟨w.heap.size + 1, 3, none⟩ = some (.slice ma mn mc) := by rw [hU]; simp [go_sem]
  have x0 : U.cell? ⟨w.heap.size + 1 + 1, 0, none⟩ = some (.int .i64 7) := by rw [hU]; simp [go_sem]
  have x1 : U.cell? ⟨w.heap.size + 1 + 1, 1, none⟩ = some (.int .i64 r) := by rw [hU]; simp [go_sem]
  have x2 : U.cell? ⟨w.heap.size + 1 + 1, 2, none⟩ = some (.int .i64 ra) := by rw [hU]; simp [go_sem]
  have x3 : U.cell? ⟨w.heap.size + 1 + 1, 3, none⟩ = some (.int .i64 rb) := by rw [hU]; simp [go_sem]
  have x4 : U.cell? ⟨w.heap.size + 1 + 1, 4, none⟩ = some (.int .i64 k) := by rw [hU]; simp [go_sem]
  have x5 : U.cell? ⟨w.heap.size + 1 + 1, 5, none⟩ = some (.slice xa xn xc) := by rw [hU]; simp [go_sem]
  have x6 : U.cell? ⟨w.heap.size + 1 + 1, 6, none⟩ = some (.int .i64 cost) := by rw [hU]; simp [go_sem]
  have x7 : U.cell? ⟨w.heap.size + 1 + 1, 7, none⟩ = some (.int .i64 mt) := by rw [hU]; simp [go_sem]
  have x8 : U.cell? ⟨w.heap.size + 1 + 1, 8, none⟩ = some (.int .i64 ip) := by rw [hU]; simp [go_sem]
  have y0 : U.cell? ⟨w.heap.size + 1 + 1 + 1, 0, none⟩ = some (.int .i64 7) := by rw [hU]; simp [go_sem]
  have y1 : U.cell? ⟨w.heap.size + 1 + 1 + 1, 1, none⟩ = some (.int .i64 0) := by rw [hU]; simp [go_sem]
  have y2 : U.cell? ⟨w.heap.size + 1 + 1 + 1, 2, none⟩ = some (.int .i64 0) := by rw [hU]; simp [go_sem]
  have y3 : U.cell? ⟨w.heap.size + 1 + 1 + 1, 3, none⟩ = some (.int .i64 0) := by rw [hU]; simp [go_sem]
  have y4 : U.cell? ⟨w.heap.size + 1 + 1 + 1, 4, none⟩ = some (.int .i64 0) := by rw [hU]; simp [go_sem]
  have y5 : U.cell? ⟨w.heap.size + 1 + 1 + 1, 5, none⟩ = some (.slice none 0 0) := by rw [hU]; simp [go_sem]
  have y6 : U.cell? ⟨w.heap.size + 1 + 1 + 1, 6, none⟩ = some (.int .i64 cost) := by rw [hU]; simp [go_sem]
  have y7 : U.cell? ⟨w.heap.size + 1 + 1 + 1, 7, none⟩ = some (.int .i64 0) := by rw [hU]; simp [go_sem]
  have y8 : U.cell? ⟨w.heap.size + 1 + 1 + 1, 8, none⟩ = some (.int .i64 ip) := by rw [hU]; simp [go_sem]
  have yf : ∀ j, U.frozen? ⟨w.heap.size + 1 + 1 + 1, j, none⟩ = false := by intro j; rw [hU]; simp [go_sem]
  clear hU e0 e1 e2 e3 e4 e5 e6 e7 e8
  by_cases k0 : 0 ≤ cost
  rotate_left
  · have F : Hid (irB ps rg cn mn q (7, r, ra, rb, k, args, cost, mt, ip) = false) := hid (by rw [EK.out, show headI cost ip = false by unfold headI; exact decide_eq_false (by omega)]; rfl)
    have k0' : decide (0 ≤ cost) = false := by simpa using k0
    go_wp2_with fail
    go_ret
    exact ⟨ret_bool F.out.symm, by repeat (first | exact B.out | refine Below.setCell ?_ (by simp; omega) _)⟩
  by_cases k1 : cost ≤ 256
  rotate_left
  · have F : Hid (irB ps rg cn mn q (7, r, ra, rb, k, args, cost, mt, ip) = false) := hid (by rw [EK.out, show headI cost ip = false by unfold headI; exact decide_eq_false (by omega)]; rfl)
    have k1' : decide (cost ≤ 256) = false := by simpa using k1
    go_wp2_with fail
    go_ret
    exact ⟨ret_bool F.out.symm, by repeat (first | exact B.out | refine Below.setCell ?_ (by simp; omega) _)⟩
  by_cases k2 : 0 ≤ ip
  rotate_left
  · have F : Hid (irB ps rg cn mn q (7, r, ra, rb, k, args, cost, mt, ip) = false) := hid (by rw [EK.out, show headI cost ip = false by unfold headI; exact decide_eq_false (by omega)]; rfl)
    have k2' : decide (0 ≤ ip) = false := by simpa using k2
    go_wp2_with fail
    go_ret
    exact ⟨ret_bool F.out.symm, by repeat (first | exact B.out | refine Below.setCell ?_ (by simp; omega) _)⟩
  by_cases k3 : ip < 64
  rotate_left
  · have F : Hid (irB ps rg cn mn q (7, r, ra, rb, k, args, cost, mt, ip) = false) := hid (by rw [EK.out, show headI cost ip = false by unfold headI; exact decide_eq_false (by omega)]; rfl)
    have k3' : decide (ip < 64) = false := by simpa using k3
    go_wp2_with fail
    go_ret
    exact ⟨ret_bool F.out.symm, by repeat (first | exact B.out | refine Below.setCell ?_ (by simp; omega) _)⟩
  have k3' : decide (ip < 64) = true := by simpa using k3
  have hd : headI cost ip = true := by unfold headI; exact decide_eq_true (by omega)
  have E1 : Hid (irB ps rg cn mn q (7, r, ra, rb, k, args, cost, mt, ip) = ((regB rg ra && decide (0 < cost)) && decide ((r, ra, rb, k, args, mt) = (0, ra, 0, 0, [], 0)))) := hid (by rw [EK.out, hd]; rfl)
  clear hd
  go_upto_region 43 with fail
  refine wp_name ?_
  intro V hV
  have BV : Hid (Below w.heap.size w V) := hid (by rw [hV]; repeat (first | exact B.out | refine Below.setCell ?_ (by simp; omega) _))
  have vp0 : V.cell? ⟨w.heap.size, 0, none⟩ = some (.slice pa pn pc) := by rw [hV]; simp [go_sem, p0]
  have vc0 : V.cell? ⟨w.heap.size + 1, 0, none⟩ = some (.int .i64 cf) := by rw [hV]; simp [go_sem, c0]
  have vc1 : V.cell? ⟨w.heap.size + 1, 1, none⟩ = some (.int .i64 rg) := by rw [hV]; simp [go_sem, c1]
  have vc2 : V.cell? ⟨w.heap.size + 1, 2, none⟩ = some (.slice (some ⟨b, o, none⟩) cn cc) := by rw [hV]; simp [go_sem, c2]
  have vc3 : V.cell? ⟨w.heap.size + 1, 3, none⟩ = some (.slice ma mn mc) := by rw [hV]; simp [go_sem, c3]
  have vx0 : V.cell? ⟨w.heap.size + 1 + 1, 0, none⟩ = some (.int .i64 7) := by rw [hV]; simp [go_sem, x0]
  have vx1 : V.cell? ⟨w.heap.size + 1 + 1, 1, none⟩ = some (.int .i64 r) := by rw [hV]; simp [go_sem, x1]
  have vx2 : V.cell? ⟨w.heap.size + 1 + 1, 2, none⟩ = some (.int .i64 ra) := by rw [hV]; simp [go_sem, x2]
  have vx3 : V.cell? ⟨w.heap.size + 1 + 1, 3, none⟩ = some (.int .i64 rb) := by rw [hV]; simp [go_sem, x3]
  have vx4 : V.cell? ⟨w.heap.size + 1 + 1, 4, none⟩ = some (.int .i64 k) := by rw [hV]; simp [go_sem, x4]
  have vx5 : V.cell? ⟨w.heap.size + 1 + 1, 5, none⟩ = some (.slice xa xn xc) := by rw [hV]; simp [go_sem, x5]
  have vx6 : V.cell? ⟨w.heap.size + 1 + 1, 6, none⟩ = some (.int .i64 cost) := by rw [hV]; simp [go_sem, x6]
  have vx7 : V.cell? ⟨w.heap.size + 1 + 1, 7, none⟩ = some (.int .i64 mt) := by rw [hV]; simp [go_sem, x7]
  have vx8 : V.cell? ⟨w.heap.size + 1 + 1, 8, none⟩ = some (.int .i64 ip) := by rw [hV]; simp [go_sem, x8]
  have vy0 : V.cell? ⟨w.heap.size + 1 + 1 + 1, 0, none⟩ = some (.int .i64 7) := by rw [hV]; simp [go_sem, y0]
  have vy1 : V.cell? ⟨w.heap.size + 1 + 1 + 1, 1, none⟩ = some (.int .i64 0) := by rw [hV]; simp [go_sem, y1]
  have vy2 : V.cell? ⟨w.heap.size + 1 + 1 + 1, 2, none⟩ = some (.int .i64 ra) := by rw [hV]; simp [go_sem, y2]
  have vy3 : V.cell? ⟨w.heap.size + 1 + 1 + 1, 3, none⟩ = some (.int .i64 0) := by rw [hV]; simp [go_sem, y3]
  have vy4 : V.cell? ⟨w.heap.size + 1 + 1 + 1, 4, none⟩ = some (.int .i64 0) := by rw [hV]; simp [go_sem, y4]
  have vy5 : V.cell? ⟨w.heap.size + 1 + 1 + 1, 5, none⟩ = some (.slice none 0 0) := by rw [hV]; simp [go_sem, y5]
  have vy6 : V.cell? ⟨w.heap.size + 1 + 1 + 1, 6, none⟩ = some (.int .i64 cost) := by rw [hV]; simp [go_sem, y6]
  have vy7 : V.cell? ⟨w.heap.size + 1 + 1 + 1, 7, none⟩ = some (.int .i64 0) := by rw [hV]; simp [go_sem, y7]
  have vy8 : V.cell? ⟨w.heap.size + 1 + 1 + 1, 8, none⟩ = some (.int .i64 ip) := by rw [hV]; simp [go_sem, y8]
  clear hV p0 c0 c1 c2 c3 x0 x1 x2 x3 x4 x5 x6 x7 x8 y0 y1 y2 y3 y4 y5 y6 y7 y8 yf
  have p0 := vp0
  clear vp0
  have c0 := vc0
  clear vc0
  have c1 := vc1
  clear vc1
  have c2 := vc2
  clear vc2
  have c3 := vc3
  clear vc3
  have x0 := vx0
  clear vx0
  have x1 := vx1
  clear vx1
  have x2 := vx2
  clear vx2
  have x3 := vx3
  clear vx3
  have x4 := vx4
  clear vx4
  have x5 := vx5
  clear vx5
  have x6 := vx6
  clear vx6
  have x7 := vx7
  clear vx7
  have x8 := vx8
  clear vx8
  have y0 := vy0
  clear vy0
  have y1 := vy1
  clear vy1
  have y2 := vy2
  clear vy2
  have y3 := vy3
  clear vy3
  have y4 := vy4
  clear vy4
  have y5 := vy5
  clear vy5
  have y6 := vy6
  clear vy6
  have y7 := vy7
  clear vy7
  have y8 := vy8
  clear vy8
  have BB : Hid (Below V.heap.size V V) := hid (Below.refl _ _)
  go_wp2_with fail
  refine (refReg_any cf rg _ _ _ _ _ _ ra _).mono ?_
  rintro e w1 ⟨rfl, b1⟩
  replace BB := hid (kt BB.out b1)
  replace p0 := kept_cell b1 p0
  replace c0 := kept_cell b1 c0
  replace c1 := kept_cell b1 c1
  replace c2 := kept_cell b1 c2
  replace c3 := kept_cell b1 c3
  replace x0 := kept_cell b1 x0
  replace x1 := kept_cell b1 x1
  replace x2 := kept_cell b1 x2
  replace x3 := kept_cell b1 x3
  replace x4 := kept_cell b1 x4
  replace x5 := kept_cell b1 x5
  replace x6 := kept_cell b1 x6
  replace x7 := kept_cell b1 x7
  replace x8 := kept_cell b1 x8
  replace y0 := kept_cell b1 y0
  replace y1 := kept_cell b1 y1
  replace y2 := kept_cell b1 y2
  replace y3 := kept_cell b1 y3
  replace y4 := kept_cell b1 y4
  replace y5 := kept_cell b1 y5
  replace y6 := kept_cell b1 y6
  replace y7 := kept_cell b1 y7
  replace y8 := kept_cell b1 y8
  clear b1
  cases h0 : regB rg ra
  · have F : Hid (irB ps rg cn mn q (7, r, ra, rb, k, args, cost, mt, ip) = false) := hid (by rw [E1.out, show (regB rg ra && decide (0 < cost)) = false by rw [h0]; rfl]; rfl)
    clear h0
    go_wp2_with fail
    go_ret
    exact ⟨ret_bool F.out.symm, kt BV.out BB.out⟩
  by_cases d10 : 0 < cost
  rotate_left
  · have g10 : decide (0 < cost) = false := by simp; omega
    have F : Hid (irB ps rg cn mn q (7, r, ra, rb, k, args, cost, mt, ip) = false) := hid (by rw [E1.out, show (regB rg ra && decide (0 < cost)) = false by rw [h0, (show decide (0 < cost) = false by first | exact decide_eq_false (by omega) | (unfold placeOk; exact decide_eq_false (by omega)) | (unfold inB; exact decide_eq_false (by omega)))]; rfl]; rfl)
    go_wp2_with fail
    go_ret
    exact ⟨ret_bool F.out.symm, kt BV.out BB.out⟩
  have g10 : decide (0 < cost) = true := by simp; omega
  have h1 : decide (0 < cost) = true := by first | exact decide_eq_true (by omega) | (unfold placeOk; exact decide_eq_true (by omega)) | (unfold inB; exact decide_eq_true (by omega))
  have E2 : Hid (irB ps rg cn mn q (7, r, ra, rb, k, args, cost, mt, ip) = decide ((r, ra, rb, k, args, mt) = (0, ra, 0, 0, [], 0))) := hid (by rw [E1.out, show (regB rg ra && decide (0 < cost)) = true by rw [h0, h1]; rfl]; rfl)
  clear h0 h1
  go_upto_region 53 with fail
  by_cases n0 : xn = 0
  rotate_left
  · have F : Hid (irB ps rg cn mn q (7, r, ra, rb, k, args, cost, mt, ip) = false) := hid (by rw [E2.out]; refine decide_eq_false (fun e => ?_); simp only [Prod.mk.injEq] at e; have := LX.out; rw [e.2.2.2.2.1] at this; exact n0 (by simpa using this))
    have n0' : ((0 : Int) == (xn : Int)) = false := by simp; omega
    go_wp2_with fail
    go_ret
    exact ⟨ret_bool F.out.symm, kt BV.out BB.out⟩
  have n0' : ((0 : Int) == (xn : Int)) = true := by simp; omega
  have N0 := hid n0
  clear n0
  by_cases n1 : r = 0
  rotate_left
  · have F : Hid (irB ps rg cn mn q (7, r, ra, rb, k, args, cost, mt, ip) = false) := hid (by rw [E2.out]; refine decide_eq_false (fun e => ?_); simp only [Prod.mk.injEq] at e; exact n1 (by simpa using e.1))
    have n1' : (r == 0) = false := by simp; omega
    go_wp2_with fail
    go_ret
    exact ⟨ret_bool F.out.symm, kt BV.out BB.out⟩
  have n1' : (r == 0) = true := by simp; omega
  have N1 := hid n1
  clear n1
  by_cases n2 : rb = 0
  rotate_left
  · have F : Hid (irB ps rg cn mn q (7, r, ra, rb, k, args, cost, mt, ip) = false) := hid (by rw [E2.out]; refine decide_eq_false (fun e => ?_); simp only [Prod.mk.injEq] at e; exact n2 (by simpa using e.2.2.1))
    have n2' : (rb == 0) = false := by simp; omega
    go_wp2_with fail
    go_ret
    exact ⟨ret_bool F.out.symm, kt BV.out BB.out⟩
  have n2' : (rb == 0) = true := by simp; omega
  have N2 := hid n2
  clear n2
  by_cases n3 : k = 0
  rotate_left
  · have F : Hid (irB ps rg cn mn q (7, r, ra, rb, k, args, cost, mt, ip) = false) := hid (by rw [E2.out]; refine decide_eq_false (fun e => ?_); simp only [Prod.mk.injEq] at e; exact n3 (by simpa using e.2.2.2.1))
    have n3' : (k == 0) = false := by simp; omega
    go_wp2_with fail
    go_ret
    exact ⟨ret_bool F.out.symm, kt BV.out BB.out⟩
  have n3' : (k == 0) = true := by simp; omega
  have N3 := hid n3
  clear n3
  by_cases n4 : mt = 0
  rotate_left
  · have F : Hid (irB ps rg cn mn q (7, r, ra, rb, k, args, cost, mt, ip) = false) := hid (by rw [E2.out]; refine decide_eq_false (fun e => ?_); simp only [Prod.mk.injEq] at e; exact n4 (by simpa using e.2.2.2.2.2))
    have n4' : (mt == 0) = false := by simp; omega
    go_wp2_with fail
    go_ret
    exact ⟨ret_bool F.out.symm, kt BV.out BB.out⟩
  have n4' : (mt == 0) = true := by simp; omega
  have N4 := hid n4
  clear n4
  have F : Hid (irB ps rg cn mn q (7, r, ra, rb, k, args, cost, mt, ip) = true) := hid (by
    rw [E2.out]
    refine decide_eq_true ?_
    have ha : args = [] := List.length_eq_zero_iff.1 (by have := LX.out; have := N0.out; omega)
    rw [ha, N1.out, N2.out, N3.out, N4.out])
  go_wp2_with fail
  go_ret
  exact ⟨ret_bool F.out.symm, kt BV.out BB.out⟩

end Go.Proofs.YtfnfbebkeoilfaaGreatDoor

namespace Go.Proofs.YtfnfbebkeoilfaaGreatDoor
open Go.RowKit
set_option linter.unusedVariables false

set_option maxRecDepth 100000 in
set_option maxHeartbeats 16000000 in
theorem refIr8_any (pa : Option Addr) (pn pc : Nat) (cn cc : Nat) (ma : Option Addr) (mn mc : Nat) (ps : List Fn) (cf rg : Int) (q : Nat) (b o : Nat) (r ra rb k : Int) (xa : Option Addr) (xn xc : Nat) (args : List Int) (cost mt ip : Int) (w : World) (hp : Fns w pa pn pc ps) (hq : q < cn) (hr : cn * 88 ≤ 140737488351232) (hcc : cn ≤ cc) (hm : mn * 24 ≤ 140737488351232)
    (e0 : w.cell? ⟨b, o + q * 9, none⟩ = some (.int .i64 8)) (e1 : w.cell? ⟨b, o + q * 9 + 1, none⟩ = some (.int .i64 r)) (e2 : w.cell? ⟨b, o + q * 9 + 2, none⟩ = some (.int .i64 ra)) (e3 : w.cell? ⟨b, o + q * 9 + 3, none⟩ = some (.int .i64 rb)) (e4 : w.cell? ⟨b, o + q * 9 + 4, none⟩ = some (.int .i64 k)) (e5 : w.cell? ⟨b, o + q * 9 + 5, none⟩ = some (.slice xa xn xc)) (e6 : w.cell? ⟨b, o + q * 9 + 6, none⟩ = some (.int .i64 cost)) (e7 : w.cell? ⟨b, o + q * 9 + 7, none⟩ = some (.int .i64 mt)) (e8 : w.cell? ⟨b, o + q * 9 + 8, none⟩ = some (.int .i64 ip)) (hx : Ints w xa xn xc args) :
    Calls Tryz.prog 21 #[.agg #[.slice pa pn pc], .agg #[.int .i64 cf, .int .i64 rg, .slice (some ⟨b, o, none⟩) cn cc, .slice ma mn mc], .int .i64 (q : Int)] w fun e w' => e = .returned (.bool (irB ps rg cn mn q (8, r, ra, rb, k, args, cost, mt, ip))) ∧ Below w.heap.size w w' := by
  have EK : Hid (irB ps rg cn mn q (8, r, ra, rb, k, args, cost, mt, ip) = (headI cost ip && (regB rg ra && decide ((r, ra, rb, k, args, mt) = (0, ra, 0, 0, [], 0))))) := hid irB_k8
  have z := lt_of_cell e0
  have HP := hid hp
  have LP := hid hp.len
  have hpr := hp.room
  have LX := hid hx.len
  have hxr := hx.room
  have HX := hid hx
  clear hp hx
  go_enter Tryz.func21, Tryz.ntmps21
  go_upto_region 3 with fail
  refine wp_name ?_
  intro U hU
  have B : Hid (Below w.heap.size w U) := hid (by rw [hU]; go_grown)
  have p0 : U.cell? ⟨w.heap.size, 0, none⟩ = some (.slice pa pn pc) := by rw [hU]; simp [go_sem]
  have c0 : U.cell? ⟨w.heap.size + 1, 0, none⟩ = some (.int .i64 cf) := by rw [hU]; simp [go_sem]
  have c1 : U.cell? ⟨w.heap.size + 1, 1, none⟩ = some (.int .i64 rg) := by rw [hU]; simp [go_sem]
  have c2 : U.cell? ⟨w.heap.size + 1, 2, none⟩ = some (.slice (some ⟨b, o, none⟩) cn cc) := by rw [hU]; simp [go_sem]
  have c3 : U.cell? ⟨w.heap.size + 1, 3, none⟩ = some (.slice ma mn mc) := by rw [hU]; simp [go_sem]
  have x0 : U.cell? ⟨w.heap.size + 1 + 1, 0, none⟩ = some (.int .i64 8) := by rw [hU]; simp [go_sem]
  have x1 : U.cell? ⟨w.heap.size + 1 + 1, 1, none⟩ = some (.int .i64 r) := by rw [hU]; simp [go_sem]
  have x2 : U.cell? ⟨w.heap.size + 1 + 1, 2, none⟩ = some (.int .i64 ra) := by rw [hU]; simp [go_sem]
  have x3 : U.cell? ⟨w.heap.size + 1 + 1, 3, none⟩ = some (.int .i64 rb) := by rw [hU]; simp [go_sem]
  have x4 : U.cell? ⟨w.heap.size + 1 + 1, 4, none⟩ = some (.int .i64 k) := by rw [hU]; simp [go_sem]
  have x5 : U.cell? ⟨w.heap.size + 1 + 1, 5, none⟩ = some (.slice xa xn xc) := by rw [hU]; simp [go_sem]
  have x6 : U.cell? ⟨w.heap.size + 1 + 1, 6, none⟩ = some (.int .i64 cost) := by rw [hU]; simp [go_sem]
  have x7 : U.cell? ⟨w.heap.size + 1 + 1, 7, none⟩ = some (.int .i64 mt) := by rw [hU]; simp [go_sem]
  have x8 : U.cell? ⟨w.heap.size + 1 + 1, 8, none⟩ = some (.int .i64 ip) := by rw [hU]; simp [go_sem]
  have y0 : U.cell? ⟨w.heap.size + 1 + 1 + 1, 0, none⟩ = some (.int .i64 8) := by rw [hU]; simp [go_sem]
  have y1 : U.cell? ⟨w.heap.size + 1 + 1 + 1, 1, none⟩ = some (.int .i64 0) := by rw [hU]; simp [go_sem]
  have y2 : U.cell? ⟨w.heap.size + 1 + 1 + 1, 2, none⟩ = some (.int .i64 0) := by rw [hU]; simp [go_sem]
  have y3 : U.cell? ⟨w.heap.size + 1 + 1 + 1, 3, none⟩ = some (.int .i64 0) := by rw [hU]; simp [go_sem]
  have y4 : U.cell? ⟨w.heap.size + 1 + 1 + 1, 4, none⟩ = some (.int .i64 0) := by rw [hU]; simp [go_sem]
  have y5 : U.cell? ⟨w.heap.size + 1 + 1 + 1, 5, none⟩ = some (.slice none 0 0) := by rw [hU]; simp [go_sem]
  have y6 : U.cell? ⟨w.heap.size + 1 + 1 + 1, 6, none⟩ = some (.int .i64 cost) := by rw [hU]; simp [go_sem]
  have y7 : U.cell? ⟨w.heap.size + 1 + 1 + 1, 7, none⟩ = some (.int .i64 0) := by rw [hU]; simp [go_sem]
  have y8 : U.cell? ⟨w.heap.size + 1 + 1 + 1, 8, none⟩ = some (.int .i64 ip) := by rw [hU]; simp [go_sem]
  have yf : ∀ j, U.frozen? ⟨w.heap.size + 1 + 1 + 1, j, none⟩ = false := by intro j; rw [hU]; simp [go_sem]
  clear hU e0 e1 e2 e3 e4 e5 e6 e7 e8
  by_cases k0 : 0 ≤ cost
  rotate_left
  · have F : Hid (irB ps rg cn mn q (8, r, ra, rb, k, args, cost, mt, ip) = false) := hid (by rw [EK.out, show headI cost ip = false by unfold headI; exact decide_eq_false (by omega)]; rfl)
    have k0' : decide (0 ≤ cost) = false := by simpa using k0
    go_wp2_with fail
    go_ret
    exact ⟨ret_bool F.out.symm, by repeat (first | exact B.out | refine Below.setCell ?_ (by simp; omega) _)⟩
  by_cases k1 : cost ≤ 256
  rotate_left
  · have F : Hid (irB ps rg cn mn q (8, r, ra, rb, k, args, cost, mt, ip) = false) := hid (by rw [EK.out, show headI cost ip = false by unfold headI; exact decide_eq_false (by omega)]; rfl)
    have k1' : decide (cost ≤ 256) = false := by simpa using k1
    go_wp2_with fail
    go_ret
    exact ⟨ret_bool F.out.symm, by repeat (first | exact B.out | refine Below.setCell ?_ (by simp; omega) _)⟩
  by_cases k2 : 0 ≤ ip
  rotate_left
  · have F : Hid (irB ps rg cn mn q (8, r, ra, rb, k, args, cost, mt, ip) = false) := hid (by rw [EK.out, show headI cost ip = false by unfold headI; exact decide_eq_false (by omega)]; rfl)
    have k2' : decide (0 ≤ ip) = false := by simpa using k2
    go_wp2_with fail
    go_ret
    exact ⟨ret_bool F.out.symm, by repeat (first | exact B.out | refine Below.setCell ?_ (by simp; omega) _)⟩
  by_cases k3 : ip < 64
  rotate_left
  · have F : Hid (irB ps rg cn mn q (8, r, ra, rb, k, args, cost, mt, ip) = false) := hid (by rw [EK.out, show headI cost ip = false by unfold headI; exact decide_eq_false (by omega)]; rfl)
    have k3' : decide (ip < 64) = false := by simpa using k3
    go_wp2_with fail
    go_ret
    exact ⟨ret_bool F.out.symm, by repeat (first | exact B.out | refine Below.setCell ?_ (by simp; omega) _)⟩
  have k3' : decide (ip < 64) = true := by simpa using k3
  have hd : headI cost ip = true := by unfold headI; exact decide_eq_true (by omega)
  have E1 : Hid (irB ps rg cn mn q (8, r, ra, rb, k, args, cost, mt, ip) = (regB rg ra && decide ((r, ra, rb, k, args, mt) = (0, ra, 0, 0, [], 0)))) := hid (by rw [EK.out, hd]; rfl)
  clear hd
  go_upto_region 43 with fail
  refine wp_name ?_
  intro V hV
  have BV : Hid (Below w.heap.size w V) := hid (by rw [hV]; repeat (first | exact B.out | refine Below.setCell ?_ (by simp; omega) _))
  have vp0 : V.cell? ⟨w.heap.size, 0, none⟩ = some (.slice pa pn pc) := by rw [hV]; simp [go_sem, p0]
  have vc0 : V.cell? ⟨w.heap.size + 1, 0, none⟩ = some (.int .i64 cf) := by rw [hV]; simp [go_sem, c0]
  have vc1 : V.cell? ⟨w.heap.size + 1, 1, none⟩ = some (.int .i64 rg) := by rw [hV]; simp [go_sem, c1]
  have vc2 : V.cell? ⟨w.heap.size + 1, 2, none⟩ = some (.slice (some ⟨b, o, none⟩) cn cc) := by rw [hV]; simp [go_sem, c2]
  have vc3 : V.cell? ⟨w.heap.size + 1, 3, none⟩ = some (.slice ma mn mc) := by rw [hV]; simp [go_sem, c3]
  have vx0 : V.cell? ⟨w.heap.size + 1 + 1, 0, none⟩ = some (.int .i64 8) := by rw [hV]; simp [go_sem, x0]
  have vx1 : V.cell? ⟨w.heap.size + 1 + 1, 1, none⟩ = some (.int .i64 r) := by rw [hV]; simp [go_sem, x1]
  have vx2 : V.cell? ⟨w.heap.size + 1 + 1, 2, none⟩ = some (.int .i64 ra) := by rw [hV]; simp [go_sem, x2]
  have vx3 : V.cell? ⟨w.heap.size + 1 + 1, 3, none⟩ = some (.int .i64 rb) := by rw [hV]; simp [go_sem, x3]
  have vx4 : V.cell? ⟨w.heap.size + 1 + 1, 4, none⟩ = some (.int .i64 k) := by rw [hV]; simp [go_sem, x4]
  have vx5 : V.cell? ⟨w.heap.size + 1 + 1, 5, none⟩ = some (.slice xa xn xc) := by rw [hV]; simp [go_sem, x5]
  have vx6 : V.cell? ⟨w.heap.size + 1 + 1, 6, none⟩ = some (.int .i64 cost) := by rw [hV]; simp [go_sem, x6]
  have vx7 : V.cell? ⟨w.heap.size + 1 + 1, 7, none⟩ = some (.int .i64 mt) := by rw [hV]; simp [go_sem, x7]
  have vx8 : V.cell? ⟨w.heap.size + 1 + 1, 8, none⟩ = some (.int .i64 ip) := by rw [hV]; simp [go_sem, x8]
  have vy0 : V.cell? ⟨w.heap.size + 1 + 1 + 1, 0, none⟩ = some (.int .i64 8) := by rw [hV]; simp [go_sem, y0]
  have vy1 : V.cell? ⟨w.heap.size + 1 + 1 + 1, 1, none⟩ = some (.int .i64 0) := by rw [hV]; simp [go_sem, y1]
  have vy2 : V.cell? ⟨w.heap.size + 1 + 1 + 1, 2, none⟩ = some (.int .i64 ra) := by rw [hV]; simp [go_sem, y2]
  have vy3 : V.cell? ⟨w.heap.size + 1 + 1 + 1, 3, none⟩ = some (.int .i64 0) := by rw [hV]; simp [go_sem, y3]
  have vy4 : V.cell? ⟨w.heap.size + 1 + 1 + 1, 4, none⟩ = some (.int .i64 0) := by rw [hV]; simp [go_sem, y4]
  have vy5 : V.cell? ⟨w.heap.size + 1 + 1 + 1, 5, none⟩ = some (.slice none 0 0) := by rw [hV]; simp [go_sem, y5]
  have vy6 : V.cell? ⟨w.heap.size + 1 + 1 + 1, 6, none⟩ = some (.int .i64 cost) := by rw [hV]; simp [go_sem, y6]
  have vy7 : V.cell? ⟨w.heap.size + 1 + 1 + 1, 7, none⟩ = some (.int .i64 0) := by rw [hV]; simp [go_sem, y7]
  have vy8 : V.cell? ⟨w.heap.size + 1 + 1 + 1, 8, none⟩ = some (.int .i64 ip) := by rw [hV]; simp [go_sem, y8]
  clear hV p0 c0 c1 c2 c3 x0 x1 x2 x3 x4 x5 x6 x7 x8 y0 y1 y2 y3 y4 y5 y6 y7 y8 yf
  have p0 := vp0
  clear vp0
  have c0 := vc0
  clear vc0
  have c1 := vc1
  clear vc1
  have c2 := vc2
  clear vc2
  have c3 := vc3
  clear vc3
  have x0 := vx0
  clear vx0
  have x1 := vx1
  clear vx1
  have x2 := vx2
  clear vx2
  have x3 := vx3
  clear vx3
  have x4 := vx4
  clear vx4
  have x5 := vx5
  clear vx5
  have x6 := vx6
  clear vx6
  have x7 := vx7
  clear vx7
  have x8 := vx8
  clear vx8
  have y0 := vy0
  clear vy0
  have y1 := vy1
  clear vy1
  have y2 := vy2
  clear vy2
  have y3 := vy3
  clear vy3
  have y4 := vy4
  clear vy4
  have y5 := vy5
  clear vy5
  have y6 := vy6
  clear vy6
  have y7 := vy7
  clear vy7
  have y8 := vy8
  clear vy8
  have BB : Hid (Below V.heap.size V V) := hid (Below.refl _ _)
  go_wp2_with fail
  refine (refReg_any cf rg _ _ _ _ _ _ ra _).mono ?_
  rintro e w1 ⟨rfl, b1⟩
  replace BB := hid (kt BB.out b1)
  replace p0 := kept_cell b1 p0
  replace c0 := kept_cell b1 c0
  replace c1 := kept_cell b1 c1
  replace c2 := kept_cell b1 c2
  replace c3 := kept_cell b1 c3
  replace x0 := kept_cell b1 x0
  replace x1 := kept_cell b1 x1
  replace x2 := kept_cell b1 x2
  replace x3 := kept_cell b1 x3
  replace x4 := kept_cell b1 x4
  replace x5 := kept_cell b1 x5
  replace x6 := kept_cell b1 x6
  replace x7 := kept_cell b1 x7
  replace x8 := kept_cell b1 x8
  replace y0 := kept_cell b1 y0
  replace y1 := kept_cell b1 y1
  replace y2 := kept_cell b1 y2
  replace y3 := kept_cell b1 y3
  replace y4 := kept_cell b1 y4
  replace y5 := kept_cell b1 y5
  replace y6 := kept_cell b1 y6
  replace y7 := kept_cell b1 y7
  replace y8 := kept_cell b1 y8
  clear b1
  cases h0 : regB rg ra
  · have F : Hid (irB ps rg cn mn q (8, r, ra, rb, k, args, cost, mt, ip) = false) := hid (by rw [E1.out, show regB rg ra = false by exact h0]; rfl)
    clear h0
    go_wp2_with fail
    go_ret
    exact ⟨ret_bool F.out.symm, kt BV.out BB.out⟩
  have E2 : Hid (irB ps rg cn mn q (8, r, ra, rb, k, args, cost, mt, ip) = decide ((r, ra, rb, k, args, mt) = (0, ra, 0, 0, [], 0))) := hid (by rw [E1.out, show regB rg ra = true by exact h0]; rfl)
  clear h0
  go_upto_region 53 with fail
  by_cases n0 : xn = 0
  rotate_left
  · have F : Hid (irB ps rg cn mn q (8, r, ra, rb, k, args, cost, mt, ip) = false) := hid (by rw [E2.out]; refine decide_eq_false (fun e => ?_); simp only [Prod.mk.injEq] at e; have := LX.out; rw [e.2.2.2.2.1] at this; exact n0 (by simpa using this))
    have n0' : ((0 : Int) == (xn : Int)) = false := by simp; omega
    go_wp2_with fail
    go_ret
    exact ⟨ret_bool F.out.symm, kt BV.out BB.out⟩
  have n0' : ((0 : Int) == (xn : Int)) = true := by simp; omega
  have N0 := hid n0
  clear n0
  by_cases n1 : r = 0
  rotate_left
  · have F : Hid (irB ps rg cn mn q (8, r, ra, rb, k, args, cost, mt, ip) = false) := hid (by rw [E2.out]; refine decide_eq_false (fun e => ?_); simp only [Prod.mk.injEq] at e; exact n1 (by simpa using e.1))
    have n1' : (r == 0) = false := by simp; omega
    go_wp2_with fail
    go_ret
    exact ⟨ret_bool F.out.symm, kt BV.out BB.out⟩
  have n1' : (r == 0) = true := by simp; omega
  have N1 := hid n1
  clear n1
  by_cases n2 : rb = 0
  rotate_left
  · have F : Hid (irB ps rg cn mn q (8, r, ra, rb, k, args, cost, mt, ip) = false) := hid (by rw [E2.out]; refine decide_eq_false (fun e => ?_); simp only [Prod.mk.injEq] at e; exact n2 (by simpa using e.2.2.1))
    have n2' : (rb == 0) = false := by simp; omega
    go_wp2_with fail
    go_ret
    exact ⟨ret_bool F.out.symm, kt BV.out BB.out⟩
  have n2' : (rb == 0) = true := by simp; omega
  have N2 := hid n2
  clear n2
  by_cases n3 : k = 0
  rotate_left
  · have F : Hid (irB ps rg cn mn q (8, r, ra, rb, k, args, cost, mt, ip) = false) := hid (by rw [E2.out]; refine decide_eq_false (fun e => ?_); simp only [Prod.mk.injEq] at e; exact n3 (by simpa using e.2.2.2.1))
    have n3' : (k == 0) = false := by simp; omega
    go_wp2_with fail
    go_ret
    exact ⟨ret_bool F.out.symm, kt BV.out BB.out⟩
  have n3' : (k == 0) = true := by simp; omega
  have N3 := hid n3
  clear n3
  by_cases n4 : mt = 0
  rotate_left
  · have F : Hid (irB ps rg cn mn q (8, r, ra, rb, k, args, cost, mt, ip) = false) := hid (by rw [E2.out]; refine decide_eq_false (fun e => ?_); simp only [Prod.mk.injEq] at e; exact n4 (by simpa using e.2.2.2.2.2))
    have n4' : (mt == 0) = false := by simp; omega
    go_wp2_with fail
    go_ret
    exact ⟨ret_bool F.out.symm, kt BV.out BB.out⟩
  have n4' : (mt == 0) = true := by simp; omega
  have N4 := hid n4
  clear n4
  have F : Hid (irB ps rg cn mn q (8, r, ra, rb, k, args, cost, mt, ip) = true) := hid (by
    rw [E2.out]
    refine decide_eq_true ?_
    have ha : args = [] := List.length_eq_zero_iff.1 (by have := LX.out; have := N0.out; omega)
    rw [ha, N1.out, N2.out, N3.out, N4.out])
  go_wp2_with fail
  go_ret
  exact ⟨ret_bool F.out.symm, kt BV.out BB.out⟩

end Go.Proofs.YtfnfbebkeoilfaaGreatDoor

namespace Go.Proofs.YtfnfbebkeoilfaaGreatDoor
open Go.RowKit
set_option linter.unusedVariables false

set_option maxRecDepth 100000 in
set_option maxHeartbeats 16000000 in
theorem refIr9_any (pa : Option Addr) (pn pc : Nat) (cn cc : Nat) (ma : Option Addr) (mn mc : Nat) (ps : List Fn) (cf rg : Int) (q : Nat) (b o : Nat) (r ra rb k : Int) (xa : Option Addr) (xn xc : Nat) (args : List Int) (cost mt ip : Int) (w : World) (hp : Fns w pa pn pc ps) (hq : q < cn) (hr : cn * 88 ≤ 140737488351232) (hcc : cn ≤ cc) (hm : mn * 24 ≤ 140737488351232)
    (e0 : w.cell? ⟨b, o + q * 9, none⟩ = some (.int .i64 9)) (e1 : w.cell? ⟨b, o + q * 9 + 1, none⟩ = some (.int .i64 r)) (e2 : w.cell? ⟨b, o + q * 9 + 2, none⟩ = some (.int .i64 ra)) (e3 : w.cell? ⟨b, o + q * 9 + 3, none⟩ = some (.int .i64 rb)) (e4 : w.cell? ⟨b, o + q * 9 + 4, none⟩ = some (.int .i64 k)) (e5 : w.cell? ⟨b, o + q * 9 + 5, none⟩ = some (.slice xa xn xc)) (e6 : w.cell? ⟨b, o + q * 9 + 6, none⟩ = some (.int .i64 cost)) (e7 : w.cell? ⟨b, o + q * 9 + 7, none⟩ = some (.int .i64 mt)) (e8 : w.cell? ⟨b, o + q * 9 + 8, none⟩ = some (.int .i64 ip)) (hx : Ints w xa xn xc args) :
    Calls Tryz.prog 21 #[.agg #[.slice pa pn pc], .agg #[.int .i64 cf, .int .i64 rg, .slice (some ⟨b, o, none⟩) cn cc, .slice ma mn mc], .int .i64 (q : Int)] w fun e w' => e = .returned (.bool (irB ps rg cn mn q (9, r, ra, rb, k, args, cost, mt, ip))) ∧ Below w.heap.size w w' := by
  have EK : Hid (irB ps rg cn mn q (9, r, ra, rb, k, args, cost, mt, ip) = (headI cost ip && ((regB rg ra && (decide (rb = 0 ∨ rb = 1) && (isNum k && inB mn mt))) && decide ((r, ra, rb, k, args, mt) = (0, ra, rb, k, [], mt))))) := hid irB_k9
  have z := lt_of_cell e0
  have HP := hid hp
  have LP := hid hp.len
  have hpr := hp.room
  have LX := hid hx.len
  have hxr := hx.room
  have HX := hid hx
  clear hp hx
  go_enter Tryz.func21, Tryz.ntmps21
  go_upto_region 3 with fail
  refine wp_name ?_
  intro U hU
  have B : Hid (Below w.heap.size w U) := hid (by rw [hU]; go_grown)
  have p0 : U.cell? ⟨w.heap.size, 0, none⟩ = some (.slice pa pn pc) := by rw [hU]; simp [go_sem]
  have c0 : U.cell? ⟨w.heap.size + 1, 0, none⟩ = some (.int .i64 cf) := by rw [hU]; simp [go_sem]
  have c1 : U.cell? ⟨w.heap.size + 1, 1, none⟩ = some (.int .i64 rg) := by rw [hU]; simp [go_sem]
  have c2 : U.cell? ⟨w.heap.size + 1, 2, none⟩ = some (.slice (some ⟨b, o, none⟩) cn cc) := by rw [hU]; simp [go_sem]
  have c3 : U.cell? ⟨w.heap.size + 1, 3, none⟩ = some (.slice ma mn mc) := by rw [hU]; simp [go_sem]
  have x0 : U.cell? ⟨w.heap.size + 1 + 1, 0, none⟩ = some (.int .i64 9) := by rw [hU]; simp [go_sem]
  have x1 : U.cell? ⟨w.heap.size + 1 + 1, 1, none⟩ = some (.int .i64 r) := by rw [hU]; simp [go_sem]
  have x2 : U.cell? ⟨w.heap.size + 1 + 1, 2, none⟩ = some (.int .i64 ra) := by rw [hU]; simp [go_sem]
  have x3 : U.cell? ⟨w.heap.size + 1 + 1, 3, none⟩ = some (.int .i64 rb) := by rw [hU]; simp [go_sem]
  have x4 : U.cell? ⟨w.heap.size + 1 + 1, 4, none⟩ = some (.int .i64 k) := by rw [hU]; simp [go_sem]
  have x5 : U.cell? ⟨w.heap.size + 1 + 1, 5, none⟩ = some (.slice xa xn xc) := by rw [hU]; simp [go_sem]
  have x6 : U.cell? ⟨w.heap.size + 1 + 1, 6, none⟩ = some (.int .i64 cost) := by rw [hU]; simp [go_sem]
  have x7 : U.cell? ⟨w.heap.size + 1 + 1, 7, none⟩ = some (.int .i64 mt) := by rw [hU]; simp [go_sem]
  have x8 : U.cell? ⟨w.heap.size + 1 + 1, 8, none⟩ = some (.int .i64 ip) := by rw [hU]; simp [go_sem]
  have y0 : U.cell? ⟨w.heap.size + 1 + 1 + 1, 0, none⟩ = some (.int .i64 9) := by rw [hU]; simp [go_sem]
  have y1 : U.cell? ⟨w.heap.size + 1 + 1 + 1, 1, none⟩ = some (.int .i64 0) := by rw [hU]; simp [go_sem]
  have y2 : U.cell? ⟨w.heap.size + 1 + 1 + 1, 2, none⟩ = some (.int .i64 0) := by rw [hU]; simp [go_sem]
  have y3 : U.cell? ⟨w.heap.size + 1 + 1 + 1, 3, none⟩ = some (.int .i64 0) := by rw [hU]; simp [go_sem]
  have y4 : U.cell? ⟨w.heap.size + 1 + 1 + 1, 4, none⟩ = some (.int .i64 0) := by rw [hU]; simp [go_sem]
  have y5 : U.cell? ⟨w.heap.size + 1 + 1 + 1, 5, none⟩ = some (.slice none 0 0) := by rw [hU]; simp [go_sem]
  have y6 : U.cell? ⟨w.heap.size + 1 + 1 + 1, 6, none⟩ = some (.int .i64 cost) := by rw [hU]; simp [go_sem]
  have y7 : U.cell? ⟨w.heap.size + 1 + 1 + 1, 7, none⟩ = some (.int .i64 0) := by rw [hU]; simp [go_sem]
  have y8 : U.cell? ⟨w.heap.size + 1 + 1 + 1, 8, none⟩ = some (.int .i64 ip) := by rw [hU]; simp [go_sem]
  have yf : ∀ j, U.frozen? ⟨w.heap.size + 1 + 1 + 1, j, none⟩ = false := by intro j; rw [hU]; simp [go_sem]
  clear hU e0 e1 e2 e3 e4 e5 e6 e7 e8
  by_cases k0 : 0 ≤ cost
  rotate_left
  · have F : Hid (irB ps rg cn mn q (9, r, ra, rb, k, args, cost, mt, ip) = false) := hid (by rw [EK.out, show headI cost ip = false by unfold headI; exact decide_eq_false (by omega)]; rfl)
    have k0' : decide (0 ≤ cost) = false := by simpa using k0
    go_wp2_with fail
    go_ret
    exact ⟨ret_bool F.out.symm, by repeat (first | exact B.out | refine Below.setCell ?_ (by simp; omega) _)⟩
  by_cases k1 : cost ≤ 256
  rotate_left
  · have F : Hid (irB ps rg cn mn q (9, r, ra, rb, k, args, cost, mt, ip) = false) := hid (by rw [EK.out, show headI cost ip = false by unfold headI; exact decide_eq_false (by omega)]; rfl)
    have k1' : decide (cost ≤ 256) = false := by simpa using k1
    go_wp2_with fail
    go_ret
    exact ⟨ret_bool F.out.symm, by repeat (first | exact B.out | refine Below.setCell ?_ (by simp; omega) _)⟩
  by_cases k2 : 0 ≤ ip
  rotate_left
  · have F : Hid (irB ps rg cn mn q (9, r, ra, rb, k, args, cost, mt, ip) = false) := hid (by rw [EK.out, show headI cost ip = false by unfold headI; exact decide_eq_false (by omega)]; rfl)
    have k2' : decide (0 ≤ ip) = false := by simpa using k2
    go_wp2_with fail
    go_ret
    exact ⟨ret_bool F.out.symm, by repeat (first | exact B.out | refine Below.setCell ?_ (by simp; omega) _)⟩
  by_cases k3 : ip < 64
  rotate_left
  · have F : Hid (irB ps rg cn mn q (9, r, ra, rb, k, args, cost, mt, ip) = false) := hid (by rw [EK.out, show headI cost ip = false by unfold headI; exact decide_eq_false (by omega)]; rfl)
    have k3' : decide (ip < 64) = false := by simpa using k3
    go_wp2_with fail
    go_ret
    exact ⟨ret_bool F.out.symm, by repeat (first | exact B.out | refine Below.setCell ?_ (by simp; omega) _)⟩
  have k3' : decide (ip < 64) = true := by simpa using k3
  have hd : headI cost ip = true := by unfold headI; exact decide_eq_true (by omega)
  have E1 : Hid (irB ps rg cn mn q (9, r, ra, rb, k, args, cost, mt, ip) = ((regB rg ra && (decide (rb = 0 ∨ rb = 1) && (isNum k && inB mn mt))) && decide ((r, ra, rb, k, args, mt) = (0, ra, rb, k, [], mt)))) := hid (by rw [EK.out, hd]; rfl)
  clear hd
  go_upto_region 49 with fail
  refine wp_name ?_
  intro V hV
  have BV : Hid (Below w.heap.size w V) := hid (by rw [hV]; repeat (first | exact B.out | refine Below.setCell ?_ (by simp; omega) _))
  have vp0 : V.cell? ⟨w.heap.size, 0, none⟩ = some (.slice pa pn pc) := by rw [hV]; simp [go_sem, p0]
  have vc0 : V.cell? ⟨w.heap.size + 1, 0, none⟩ = some (.int .i64 cf) := by rw [hV]; simp [go_sem, c0]
  have vc1 : V.cell? ⟨w.heap.size + 1, 1, none⟩ = some (.int .i64 rg) := by rw [hV]; simp [go_sem, c1]
  have vc2 : V.cell? ⟨w.heap.size + 1, 2, none⟩ = some (.slice (some ⟨b, o, none⟩) cn cc) := by rw [hV]; simp [go_sem, c2]
  have vc3 : V.cell? ⟨w.heap.size + 1, 3, none⟩ = some (.slice ma mn mc) := by rw [hV]; simp [go_sem, c3]
  have vx0 : V.cell? ⟨w.heap.size + 1 + 1, 0, none⟩ = some (.int .i64 9) := by rw [hV]; simp [go_sem, x0]
  have vx1 : V.cell? ⟨w.heap.size + 1 + 1, 1, none⟩ = some (.int .i64 r) := by rw [hV]; simp [go_sem, x1]
  have vx2 : V.cell? ⟨w.heap.size + 1 + 1, 2, none⟩ = some (.int .i64 ra) := by rw [hV]; simp [go_sem, x2]
  have vx3 : V.cell? ⟨w.heap.size + 1 + 1, 3, none⟩ = some (.int .i64 rb) := by rw [hV]; simp [go_sem, x3]
  have vx4 : V.cell? ⟨w.heap.size + 1 + 1, 4, none⟩ = some (.int .i64 k) := by rw [hV]; simp [go_sem, x4]
  have vx5 : V.cell? ⟨w.heap.size + 1 + 1, 5, none⟩ = some (.slice xa xn xc) := by rw [hV]; simp [go_sem, x5]
  have vx6 : V.cell? ⟨w.heap.size + 1 + 1, 6, none⟩ = some (.int .i64 cost) := by rw [hV]; simp [go_sem, x6]
  have vx7 : V.cell? ⟨w.heap.size + 1 + 1, 7, none⟩ = some (.int .i64 mt) := by rw [hV]; simp [go_sem, x7]
  have vx8 : V.cell? ⟨w.heap.size + 1 + 1, 8, none⟩ = some (.int .i64 ip) := by rw [hV]; simp [go_sem, x8]
  have vy0 : V.cell? ⟨w.heap.size + 1 + 1 + 1, 0, none⟩ = some (.int .i64 9) := by rw [hV]; simp [go_sem, y0]
  have vy1 : V.cell? ⟨w.heap.size + 1 + 1 + 1, 1, none⟩ = some (.int .i64 0) := by rw [hV]; simp [go_sem, y1]
  have vy2 : V.cell? ⟨w.heap.size + 1 + 1 + 1, 2, none⟩ = some (.int .i64 ra) := by rw [hV]; simp [go_sem, y2]
  have vy3 : V.cell? ⟨w.heap.size + 1 + 1 + 1, 3, none⟩ = some (.int .i64 rb) := by rw [hV]; simp [go_sem, y3]
  have vy4 : V.cell? ⟨w.heap.size + 1 + 1 + 1, 4, none⟩ = some (.int .i64 k) := by rw [hV]; simp [go_sem, y4]
  have vy5 : V.cell? ⟨w.heap.size + 1 + 1 + 1, 5, none⟩ = some (.slice none 0 0) := by rw [hV]; simp [go_sem, y5]
  have vy6 : V.cell? ⟨w.heap.size + 1 + 1 + 1, 6, none⟩ = some (.int .i64 cost) := by rw [hV]; simp [go_sem, y6]
  have vy7 : V.cell? ⟨w.heap.size + 1 + 1 + 1, 7, none⟩ = some (.int .i64 mt) := by rw [hV]; simp [go_sem, y7]
  have vy8 : V.cell? ⟨w.heap.size + 1 + 1 + 1, 8, none⟩ = some (.int .i64 ip) := by rw [hV]; simp [go_sem, y8]
  clear hV p0 c0 c1 c2 c3 x0 x1 x2 x3 x4 x5 x6 x7 x8 y0 y1 y2 y3 y4 y5 y6 y7 y8 yf
  have p0 := vp0
  clear vp0
  have c0 := vc0
  clear vc0
  have c1 := vc1
  clear vc1
  have c2 := vc2
  clear vc2
  have c3 := vc3
  clear vc3
  have x0 := vx0
  clear vx0
  have x1 := vx1
  clear vx1
  have x2 := vx2
  clear vx2
  have x3 := vx3
  clear vx3
  have x4 := vx4
  clear vx4
  have x5 := vx5
  clear vx5
  have x6 := vx6
  clear vx6
  have x7 := vx7
  clear vx7
  have x8 := vx8
  clear vx8
  have y0 := vy0
  clear vy0
  have y1 := vy1
  clear vy1
  have y2 := vy2
  clear vy2
  have y3 := vy3
  clear vy3
  have y4 := vy4
  clear vy4
  have y5 := vy5
  clear vy5
  have y6 := vy6
  clear vy6
  have y7 := vy7
  clear vy7
  have y8 := vy8
  clear vy8
  have BB : Hid (Below V.heap.size V V) := hid (Below.refl _ _)
  go_wp2_with fail
  refine (refReg_any cf rg _ _ _ _ _ _ ra _).mono ?_
  rintro e w1 ⟨rfl, b1⟩
  replace BB := hid (kt BB.out b1)
  replace p0 := kept_cell b1 p0
  replace c0 := kept_cell b1 c0
  replace c1 := kept_cell b1 c1
  replace c2 := kept_cell b1 c2
  replace c3 := kept_cell b1 c3
  replace x0 := kept_cell b1 x0
  replace x1 := kept_cell b1 x1
  replace x2 := kept_cell b1 x2
  replace x3 := kept_cell b1 x3
  replace x4 := kept_cell b1 x4
  replace x5 := kept_cell b1 x5
  replace x6 := kept_cell b1 x6
  replace x7 := kept_cell b1 x7
  replace x8 := kept_cell b1 x8
  replace y0 := kept_cell b1 y0
  replace y1 := kept_cell b1 y1
  replace y2 := kept_cell b1 y2
  replace y3 := kept_cell b1 y3
  replace y4 := kept_cell b1 y4
  replace y5 := kept_cell b1 y5
  replace y6 := kept_cell b1 y6
  replace y7 := kept_cell b1 y7
  replace y8 := kept_cell b1 y8
  clear b1
  cases h0 : regB rg ra
  · have F : Hid (irB ps rg cn mn q (9, r, ra, rb, k, args, cost, mt, ip) = false) := hid (by rw [E1.out, show (regB rg ra && (decide (rb = 0 ∨ rb = 1) && (isNum k && inB mn mt))) = false by rw [h0]; rfl]; rfl)
    clear h0
    go_wp2_with fail
    go_ret
    exact ⟨ret_bool F.out.symm, kt BV.out BB.out⟩
  by_cases d10 : rb = 0
  · have g10 : (rb == 0) = true := by simp; omega
    have h1 : decide (rb = 0 ∨ rb = 1) = true := by first | exact decide_eq_true (by omega) | (unfold placeOk; exact decide_eq_true (by omega)) | (unfold inB; exact decide_eq_true (by omega))
    go_wp2_with fail
    refine (refNumber_any k _).mono ?_
    rintro e w3 ⟨rfl, hw⟩
    rw [hw]
    clear hw w3
    cases h2 : isNum k
    · have F : Hid (irB ps rg cn mn q (9, r, ra, rb, k, args, cost, mt, ip) = false) := hid (by rw [E1.out, show (regB rg ra && (decide (rb = 0 ∨ rb = 1) && (isNum k && inB mn mt))) = false by rw [h0, h1, h2]; rfl]; rfl)
      clear h2
      go_wp2_with fail
      go_ret
      exact ⟨ret_bool F.out.symm, kt BV.out BB.out⟩
    by_cases d30 : 0 ≤ mt
    rotate_left
    · have g30 : decide (0 ≤ mt) = false := by simp; omega
      have F : Hid (irB ps rg cn mn q (9, r, ra, rb, k, args, cost, mt, ip) = false) := hid (by rw [E1.out, show (regB rg ra && (decide (rb = 0 ∨ rb = 1) && (isNum k && inB mn mt))) = false by rw [h0, h1, h2, (show inB mn mt = false by first | exact decide_eq_false (by omega) | (unfold placeOk; exact decide_eq_false (by omega)) | (unfold inB; exact decide_eq_false (by omega)))]; rfl]; rfl)
      go_wp2_with fail
      go_ret
      exact ⟨ret_bool F.out.symm, kt BV.out BB.out⟩
    have g30 : decide (0 ≤ mt) = true := by simp; omega
    by_cases d31 : mt < (mn : Int)
    rotate_left
    · have g31 : decide (mt < (mn : Int)) = false := by simp; omega
      have F : Hid (irB ps rg cn mn q (9, r, ra, rb, k, args, cost, mt, ip) = false) := hid (by rw [E1.out, show (regB rg ra && (decide (rb = 0 ∨ rb = 1) && (isNum k && inB mn mt))) = false by rw [h0, h1, h2, (show inB mn mt = false by first | exact decide_eq_false (by omega) | (unfold placeOk; exact decide_eq_false (by omega)) | (unfold inB; exact decide_eq_false (by omega)))]; rfl]; rfl)
      go_wp2_with fail
      go_ret
      exact ⟨ret_bool F.out.symm, kt BV.out BB.out⟩
    have g31 : decide (mt < (mn : Int)) = true := by simp; omega
    have h3 : inB mn mt = true := by first | exact decide_eq_true (by omega) | (unfold placeOk; exact decide_eq_true (by omega)) | (unfold inB; exact decide_eq_true (by omega))
    have E2 : Hid (irB ps rg cn mn q (9, r, ra, rb, k, args, cost, mt, ip) = decide ((r, ra, rb, k, args, mt) = (0, ra, rb, k, [], mt))) := hid (by rw [E1.out, show (regB rg ra && (decide (rb = 0 ∨ rb = 1) && (isNum k && inB mn mt))) = true by rw [h0, h1, h2, h3]; rfl]; rfl)
    clear h0 h1 h2 h3
    go_upto_region 53 with fail
    by_cases n0 : xn = 0
    rotate_left
    · have F : Hid (irB ps rg cn mn q (9, r, ra, rb, k, args, cost, mt, ip) = false) := hid (by rw [E2.out]; refine decide_eq_false (fun e => ?_); simp only [Prod.mk.injEq] at e; have := LX.out; rw [e.2.2.2.2.1] at this; exact n0 (by simpa using this))
      have n0' : ((0 : Int) == (xn : Int)) = false := by simp; omega
      go_wp2_with fail
      go_ret
      exact ⟨ret_bool F.out.symm, kt BV.out BB.out⟩
    have n0' : ((0 : Int) == (xn : Int)) = true := by simp; omega
    have N0 := hid n0
    clear n0
    by_cases n1 : r = 0
    rotate_left
    · have F : Hid (irB ps rg cn mn q (9, r, ra, rb, k, args, cost, mt, ip) = false) := hid (by rw [E2.out]; refine decide_eq_false (fun e => ?_); simp only [Prod.mk.injEq] at e; exact n1 (by simpa using e.1))
      have n1' : (r == 0) = false := by simp; omega
      go_wp2_with fail
      go_ret
      exact ⟨ret_bool F.out.symm, kt BV.out BB.out⟩
    have n1' : (r == 0) = true := by simp; omega
    have N1 := hid n1
    clear n1
    have F : Hid (irB ps rg cn mn q (9, r, ra, rb, k, args, cost, mt, ip) = true) := hid (by
      rw [E2.out]
      refine decide_eq_true ?_
      have ha : args = [] := List.length_eq_zero_iff.1 (by have := LX.out; have := N0.out; omega)
      rw [ha, N1.out])
    go_wp2_with fail
    go_ret
    exact ⟨ret_bool F.out.symm, kt BV.out BB.out⟩
  have g10 : (rb == 0) = false := by simp; omega
  by_cases f10 : rb = 1
  rotate_left
  · have gg10 : (rb == 1) = false := by simp; omega
    have F : Hid (irB ps rg cn mn q (9, r, ra, rb, k, args, cost, mt, ip) = false) := hid (by rw [E1.out, show (regB rg ra && (decide (rb = 0 ∨ rb = 1) && (isNum k && inB mn mt))) = false by rw [h0, (show decide (rb = 0 ∨ rb = 1) = false by first | exact decide_eq_false (by omega) | (unfold placeOk; exact decide_eq_false (by omega)) | (unfold inB; exact decide_eq_false (by omega)))]; rfl]; rfl)
    go_wp2_with fail
    go_ret
    exact ⟨ret_bool F.out.symm, kt BV.out BB.out⟩
  have gg10 : (rb == 1) = true := by simp; omega
  have h1 : decide (rb = 0 ∨ rb = 1) = true := by first | exact decide_eq_true (by omega) | (unfold placeOk; exact decide_eq_true (by omega)) | (unfold inB; exact decide_eq_true (by omega))
  go_wp2_with fail
  refine (refNumber_any k _).mono ?_
  rintro e w3 ⟨rfl, hw⟩
  rw [hw]
  clear hw w3
  cases h2 : isNum k
  · have F : Hid (irB ps rg cn mn q (9, r, ra, rb, k, args, cost, mt, ip) = false) := hid (by rw [E1.out, show (regB rg ra && (decide (rb = 0 ∨ rb = 1) && (isNum k && inB mn mt))) = false by rw [h0, h1, h2]; rfl]; rfl)
    clear h2
    go_wp2_with fail
    go_ret
    exact ⟨ret_bool F.out.symm, kt BV.out BB.out⟩
  by_cases d30 : 0 ≤ mt
  rotate_left
  · have g30 : decide (0 ≤ mt) = false := by simp; omega
    have F : Hid (irB ps rg cn mn q (9, r, ra, rb, k, args, cost, mt, ip) = false) := hid (by rw [E1.out, show (regB rg ra && (decide (rb = 0 ∨ rb = 1) && (isNum k && inB mn mt))) = false by rw [h0, h1, h2, (show inB mn mt = false by first | exact decide_eq_false (by omega) | (unfold placeOk; exact decide_eq_false (by omega)) | (unfold inB; exact decide_eq_false (by omega)))]; rfl]; rfl)
    go_wp2_with fail
    go_ret
    exact ⟨ret_bool F.out.symm, kt BV.out BB.out⟩
  have g30 : decide (0 ≤ mt) = true := by simp; omega
  by_cases d31 : mt < (mn : Int)
  rotate_left
  · have g31 : decide (mt < (mn : Int)) = false := by simp; omega
    have F : Hid (irB ps rg cn mn q (9, r, ra, rb, k, args, cost, mt, ip) = false) := hid (by rw [E1.out, show (regB rg ra && (decide (rb = 0 ∨ rb = 1) && (isNum k && inB mn mt))) = false by rw [h0, h1, h2, (show inB mn mt = false by first | exact decide_eq_false (by omega) | (unfold placeOk; exact decide_eq_false (by omega)) | (unfold inB; exact decide_eq_false (by omega)))]; rfl]; rfl)
    go_wp2_with fail
    go_ret
    exact ⟨ret_bool F.out.symm, kt BV.out BB.out⟩
  have g31 : decide (mt < (mn : Int)) = true := by simp; omega
  have h3 : inB mn mt = true := by first | exact decide_eq_true (by omega) | (unfold placeOk; exact decide_eq_true (by omega)) | (unfold inB; exact decide_eq_true (by omega))
  have E2 : Hid (irB ps rg cn mn q (9, r, ra, rb, k, args, cost, mt, ip) = decide ((r, ra, rb, k, args, mt) = (0, ra, rb, k, [], mt))) := hid (by rw [E1.out, show (regB rg ra && (decide (rb = 0 ∨ rb = 1) && (isNum k && inB mn mt))) = true by rw [h0, h1, h2, h3]; rfl]; rfl)
  clear h0 h1 h2 h3
  go_upto_region 53 with fail
  by_cases n0 : xn = 0
  rotate_left
  · have F : Hid (irB ps rg cn mn q (9, r, ra, rb, k, args, cost, mt, ip) = false) := hid (by rw [E2.out]; refine decide_eq_false (fun e => ?_); simp only [Prod.mk.injEq] at e; have := LX.out; rw [e.2.2.2.2.1] at this; exact n0 (by simpa using this))
    have n0' : ((0 : Int) == (xn : Int)) = false := by simp; omega
    go_wp2_with fail
    go_ret
    exact ⟨ret_bool F.out.symm, kt BV.out BB.out⟩
  have n0' : ((0 : Int) == (xn : Int)) = true := by simp; omega
  have N0 := hid n0
  clear n0
  by_cases n1 : r = 0
  rotate_left
  · have F : Hid (irB ps rg cn mn q (9, r, ra, rb, k, args, cost, mt, ip) = false) := hid (by rw [E2.out]; refine decide_eq_false (fun e => ?_); simp only [Prod.mk.injEq] at e; exact n1 (by simpa using e.1))
    have n1' : (r == 0) = false := by simp; omega
    go_wp2_with fail
    go_ret
    exact ⟨ret_bool F.out.symm, kt BV.out BB.out⟩
  have n1' : (r == 0) = true := by simp; omega
  have N1 := hid n1
  clear n1
  have F : Hid (irB ps rg cn mn q (9, r, ra, rb, k, args, cost, mt, ip) = true) := hid (by
    rw [E2.out]
    refine decide_eq_true ?_
    have ha : args = [] := List.length_eq_zero_iff.1 (by have := LX.out; have := N0.out; omega)
    rw [ha, N1.out])
  go_wp2_with fail
  go_ret
  exact ⟨ret_bool F.out.symm, kt BV.out BB.out⟩

end Go.Proofs.YtfnfbebkeoilfaaGreatDoor

namespace Go.Proofs.YtfnfbebkeoilfaaGreatDoor
open Go.RowKit
set_option linter.unusedVariables false

set_option maxRecDepth 100000 in
set_option maxHeartbeats 16000000 in
theorem refIr10_any (pa : Option Addr) (pn pc : Nat) (cn cc : Nat) (ma : Option Addr) (mn mc : Nat) (ps : List Fn) (cf rg : Int) (q : Nat) (b o : Nat) (r ra rb k : Int) (xa : Option Addr) (xn xc : Nat) (args : List Int) (cost mt ip : Int) (w : World) (hp : Fns w pa pn pc ps) (hq : q < cn) (hr : cn * 88 ≤ 140737488351232) (hcc : cn ≤ cc) (hm : mn * 24 ≤ 140737488351232)
    (e0 : w.cell? ⟨b, o + q * 9, none⟩ = some (.int .i64 10)) (e1 : w.cell? ⟨b, o + q * 9 + 1, none⟩ = some (.int .i64 r)) (e2 : w.cell? ⟨b, o + q * 9 + 2, none⟩ = some (.int .i64 ra)) (e3 : w.cell? ⟨b, o + q * 9 + 3, none⟩ = some (.int .i64 rb)) (e4 : w.cell? ⟨b, o + q * 9 + 4, none⟩ = some (.int .i64 k)) (e5 : w.cell? ⟨b, o + q * 9 + 5, none⟩ = some (.slice xa xn xc)) (e6 : w.cell? ⟨b, o + q * 9 + 6, none⟩ = some (.int .i64 cost)) (e7 : w.cell? ⟨b, o + q * 9 + 7, none⟩ = some (.int .i64 mt)) (e8 : w.cell? ⟨b, o + q * 9 + 8, none⟩ = some (.int .i64 ip)) (hx : Ints w xa xn xc args) :
    Calls Tryz.prog 21 #[.agg #[.slice pa pn pc], .agg #[.int .i64 cf, .int .i64 rg, .slice (some ⟨b, o, none⟩) cn cc, .slice ma mn mc], .int .i64 (q : Int)] w fun e w' => e = .returned (.bool (irB ps rg cn mn q (10, r, ra, rb, k, args, cost, mt, ip))) ∧ Below w.heap.size w w' := by
  have EK : Hid (irB ps rg cn mn q (10, r, ra, rb, k, args, cost, mt, ip) = (headI cost ip && (inB mn mt && decide ((r, ra, rb, k, args, mt) = (0, 0, 0, 0, [], mt))))) := hid irB_k10
  have z := lt_of_cell e0
  have HP := hid hp
  have LP := hid hp.len
  have hpr := hp.room
  have LX := hid hx.len
  have hxr := hx.room
  have HX := hid hx
  clear hp hx
  go_enter Tryz.func21, Tryz.ntmps21
  go_upto_region 3 with fail
  refine wp_name ?_
  intro U hU
  have B : Hid (Below w.heap.size w U) := hid (by rw [hU]; go_grown)
  have p0 : U.cell? ⟨w.heap.size, 0, none⟩ = some (.slice pa pn pc) := by rw [hU]; simp [go_sem]
  have c0 : U.cell? ⟨w.heap.size + 1, 0, none⟩ = some (.int .i64 cf) := by rw [hU]; simp [go_sem]
  have c1 : U.cell? ⟨w.heap.size + 1, 1, none⟩ = some (.int .i64 rg) := by rw [hU]; simp [go_sem]
  have c2 : U.cell? ⟨w.heap.size + 1, 2, none⟩ = some (.slice (some ⟨b, o, none⟩) cn cc) := by rw [hU]; simp [go_sem]
  have c3 : U.cell? ⟨w.heap.size + 1, 3, none⟩ = some (.slice ma mn mc) := by rw [hU]; simp [go_sem]
  have x0 : U.cell? ⟨w.heap.size + 1 + 1, 0, none⟩ = some (.int .i64 10) := by rw [hU]; simp [go_sem]
  have x1 : U.cell? ⟨w.heap.size + 1 + 1, 1, none⟩ = some (.int .i64 r) := by rw [hU]; simp [go_sem]
  have x2 : U.cell? ⟨w.heap.size + 1 + 1, 2, none⟩ = some (.int .i64 ra) := by rw [hU]; simp [go_sem]
  have x3 : U.cell? ⟨w.heap.size + 1 + 1, 3, none⟩ = some (.int .i64 rb) := by rw [hU]; simp [go_sem]
  have x4 : U.cell? ⟨w.heap.size + 1 + 1, 4, none⟩ = some (.int .i64 k) := by rw [hU]; simp [go_sem]
  have x5 : U.cell? ⟨w.heap.size + 1 + 1, 5, none⟩ = some (.slice xa xn xc) := by rw [hU]; simp [go_sem]
  have x6 : U.cell? ⟨w.heap.size + 1 + 1, 6, none⟩ = some (.int .i64 cost) := by rw [hU]; simp [go_sem]
  have x7 : U.cell? ⟨w.heap.size + 1 + 1, 7, none⟩ = some (.int .i64 mt) := by rw [hU]; simp [go_sem]
  have x8 : U.cell? ⟨w.heap.size + 1 + 1, 8, none⟩ = some (.int .i64 ip) := by rw [hU]; simp [go_sem]
  have y0 : U.cell? ⟨w.heap.size + 1 + 1 + 1, 0, none⟩ = some (.int .i64 10) := by rw [hU]; simp [go_sem]
  have y1 : U.cell? ⟨w.heap.size + 1 + 1 + 1, 1, none⟩ = some (.int .i64 0) := by rw [hU]; simp [go_sem]
  have y2 : U.cell? ⟨w.heap.size + 1 + 1 + 1, 2, none⟩ = some (.int .i64 0) := by rw [hU]; simp [go_sem]
  have y3 : U.cell? ⟨w.heap.size + 1 + 1 + 1, 3, none⟩ = some (.int .i64 0) := by rw [hU]; simp [go_sem]
  have y4 : U.cell? ⟨w.heap.size + 1 + 1 + 1, 4, none⟩ = some (.int .i64 0) := by rw [hU]; simp [go_sem]
  have y5 : U.cell? ⟨w.heap.size + 1 + 1 + 1, 5, none⟩ = some (.slice none 0 0) := by rw [hU]; simp [go_sem]
  have y6 : U.cell? ⟨w.heap.size + 1 + 1 + 1, 6, none⟩ = some (.int .i64 cost) := by rw [hU]; simp [go_sem]
  have y7 : U.cell? ⟨w.heap.size + 1 + 1 + 1, 7, none⟩ = some (.int .i64 0) := by rw [hU]; simp [go_sem]
  have y8 : U.cell? ⟨w.heap.size + 1 + 1 + 1, 8, none⟩ = some (.int .i64 ip) := by rw [hU]; simp [go_sem]
  have yf : ∀ j, U.frozen? ⟨w.heap.size + 1 + 1 + 1, j, none⟩ = false := by intro j; rw [hU]; simp [go_sem]
  clear hU e0 e1 e2 e3 e4 e5 e6 e7 e8
  by_cases k0 : 0 ≤ cost
  rotate_left
  · have F : Hid (irB ps rg cn mn q (10, r, ra, rb, k, args, cost, mt, ip) = false) := hid (by rw [EK.out, show headI cost ip = false by unfold headI; exact decide_eq_false (by omega)]; rfl)
    have k0' : decide (0 ≤ cost) = false := by simpa using k0
    go_wp2_with fail
    go_ret
    exact ⟨ret_bool F.out.symm, by repeat (first | exact B.out | refine Below.setCell ?_ (by simp; omega) _)⟩
  by_cases k1 : cost ≤ 256
  rotate_left
  · have F : Hid (irB ps rg cn mn q (10, r, ra, rb, k, args, cost, mt, ip) = false) := hid (by rw [EK.out, show headI cost ip = false by unfold headI; exact decide_eq_false (by omega)]; rfl)
    have k1' : decide (cost ≤ 256) = false := by simpa using k1
    go_wp2_with fail
    go_ret
    exact ⟨ret_bool F.out.symm, by repeat (first | exact B.out | refine Below.setCell ?_ (by simp; omega) _)⟩
  by_cases k2 : 0 ≤ ip
  rotate_left
  · have F : Hid (irB ps rg cn mn q (10, r, ra, rb, k, args, cost, mt, ip) = false) := hid (by rw [EK.out, show headI cost ip = false by unfold headI; exact decide_eq_false (by omega)]; rfl)
    have k2' : decide (0 ≤ ip) = false := by simpa using k2
    go_wp2_with fail
    go_ret
    exact ⟨ret_bool F.out.symm, by repeat (first | exact B.out | refine Below.setCell ?_ (by simp; omega) _)⟩
  by_cases k3 : ip < 64
  rotate_left
  · have F : Hid (irB ps rg cn mn q (10, r, ra, rb, k, args, cost, mt, ip) = false) := hid (by rw [EK.out, show headI cost ip = false by unfold headI; exact decide_eq_false (by omega)]; rfl)
    have k3' : decide (ip < 64) = false := by simpa using k3
    go_wp2_with fail
    go_ret
    exact ⟨ret_bool F.out.symm, by repeat (first | exact B.out | refine Below.setCell ?_ (by simp; omega) _)⟩
  have k3' : decide (ip < 64) = true := by simpa using k3
  have hd : headI cost ip = true := by unfold headI; exact decide_eq_true (by omega)
  have E1 : Hid (irB ps rg cn mn q (10, r, ra, rb, k, args, cost, mt, ip) = (inB mn mt && decide ((r, ra, rb, k, args, mt) = (0, 0, 0, 0, [], mt)))) := hid (by rw [EK.out, hd]; rfl)
  clear hd
  go_upto_region 52 with fail
  refine wp_name ?_
  intro V hV
  have BV : Hid (Below w.heap.size w V) := hid (by rw [hV]; repeat (first | exact B.out | refine Below.setCell ?_ (by simp; omega) _))
  have vp0 : V.cell? ⟨w.heap.size, 0, none⟩ = some (.slice pa pn pc) := by rw [hV]; simp [go_sem, p0]
  have vc0 : V.cell? ⟨w.heap.size + 1, 0, none⟩ = some (.int .i64 cf) := by rw [hV]; simp [go_sem, c0]
  have vc1 : V.cell? ⟨w.heap.size + 1, 1, none⟩ = some (.int .i64 rg) := by rw [hV]; simp [go_sem, c1]
  have vc2 : V.cell? ⟨w.heap.size + 1, 2, none⟩ = some (.slice (some ⟨b, o, none⟩) cn cc) := by rw [hV]; simp [go_sem, c2]
  have vc3 : V.cell? ⟨w.heap.size + 1, 3, none⟩ = some (.slice ma mn mc) := by rw [hV]; simp [go_sem, c3]
  have vx0 : V.cell? ⟨w.heap.size + 1 + 1, 0, none⟩ = some (.int .i64 10) := by rw [hV]; simp [go_sem, x0]
  have vx1 : V.cell? ⟨w.heap.size + 1 + 1, 1, none⟩ = some (.int .i64 r) := by rw [hV]; simp [go_sem, x1]
  have vx2 : V.cell? ⟨w.heap.size + 1 + 1, 2, none⟩ = some (.int .i64 ra) := by rw [hV]; simp [go_sem, x2]
  have vx3 : V.cell? ⟨w.heap.size + 1 + 1, 3, none⟩ = some (.int .i64 rb) := by rw [hV]; simp [go_sem, x3]
  have vx4 : V.cell? ⟨w.heap.size + 1 + 1, 4, none⟩ = some (.int .i64 k) := by rw [hV]; simp [go_sem, x4]
  have vx5 : V.cell? ⟨w.heap.size + 1 + 1, 5, none⟩ = some (.slice xa xn xc) := by rw [hV]; simp [go_sem, x5]
  have vx6 : V.cell? ⟨w.heap.size + 1 + 1, 6, none⟩ = some (.int .i64 cost) := by rw [hV]; simp [go_sem, x6]
  have vx7 : V.cell? ⟨w.heap.size + 1 + 1, 7, none⟩ = some (.int .i64 mt) := by rw [hV]; simp [go_sem, x7]
  have vx8 : V.cell? ⟨w.heap.size + 1 + 1, 8, none⟩ = some (.int .i64 ip) := by rw [hV]; simp [go_sem, x8]
  have vy0 : V.cell? ⟨w.heap.size + 1 + 1 + 1, 0, none⟩ = some (.int .i64 10) := by rw [hV]; simp [go_sem, y0]
  have vy1 : V.cell? ⟨w.heap.size + 1 + 1 + 1, 1, none⟩ = some (.int .i64 0) := by rw [hV]; simp [go_sem, y1]
  have vy2 : V.cell? ⟨w.heap.size + 1 + 1 + 1, 2, none⟩ = some (.int .i64 0) := by rw [hV]; simp [go_sem, y2]
  have vy3 : V.cell? ⟨w.heap.size + 1 + 1 + 1, 3, none⟩ = some (.int .i64 0) := by rw [hV]; simp [go_sem, y3]
  have vy4 : V.cell? ⟨w.heap.size + 1 + 1 + 1, 4, none⟩ = some (.int .i64 0) := by rw [hV]; simp [go_sem, y4]
  have vy5 : V.cell? ⟨w.heap.size + 1 + 1 + 1, 5, none⟩ = some (.slice none 0 0) := by rw [hV]; simp [go_sem, y5]
  have vy6 : V.cell? ⟨w.heap.size + 1 + 1 + 1, 6, none⟩ = some (.int .i64 cost) := by rw [hV]; simp [go_sem, y6]
  have vy7 : V.cell? ⟨w.heap.size + 1 + 1 + 1, 7, none⟩ = some (.int .i64 mt) := by rw [hV]; simp [go_sem, y7]
  have vy8 : V.cell? ⟨w.heap.size + 1 + 1 + 1, 8, none⟩ = some (.int .i64 ip) := by rw [hV]; simp [go_sem, y8]
  clear hV p0 c0 c1 c2 c3 x0 x1 x2 x3 x4 x5 x6 x7 x8 y0 y1 y2 y3 y4 y5 y6 y7 y8 yf
  have p0 := vp0
  clear vp0
  have c0 := vc0
  clear vc0
  have c1 := vc1
  clear vc1
  have c2 := vc2
  clear vc2
  have c3 := vc3
  clear vc3
  have x0 := vx0
  clear vx0
  have x1 := vx1
  clear vx1
  have x2 := vx2
  clear vx2
  have x3 := vx3
  clear vx3
  have x4 := vx4
  clear vx4
  have x5 := vx5
  clear vx5
  have x6 := vx6
  clear vx6
  have x7 := vx7
  clear vx7
  have x8 := vx8
  clear vx8
  have y0 := vy0
  clear vy0
  have y1 := vy1
  clear vy1
  have y2 := vy2
  clear vy2
  have y3 := vy3
  clear vy3
  have y4 := vy4
  clear vy4
  have y5 := vy5
  clear vy5
  have y6 := vy6
  clear vy6
  have y7 := vy7
  clear vy7
  have y8 := vy8
  clear vy8
  have BB : Hid (Below V.heap.size V V) := hid (Below.refl _ _)
  by_cases d00 : 0 ≤ mt
  rotate_left
  · have g00 : decide (0 ≤ mt) = false := by simp; omega
    have F : Hid (irB ps rg cn mn q (10, r, ra, rb, k, args, cost, mt, ip) = false) := hid (by rw [E1.out, show inB mn mt = false by exact (show inB mn mt = false by first | exact decide_eq_false (by omega) | (unfold placeOk; exact decide_eq_false (by omega)) | (unfold inB; exact decide_eq_false (by omega)))]; rfl)
    go_wp2_with fail
    go_ret
    exact ⟨ret_bool F.out.symm, kt BV.out BB.out⟩
  have g00 : decide (0 ≤ mt) = true := by simp; omega
  by_cases d01 : mt < (mn : Int)
  rotate_left
  · have g01 : decide (mt < (mn : Int)) = false := by simp; omega
    have F : Hid (irB ps rg cn mn q (10, r, ra, rb, k, args, cost, mt, ip) = false) := hid (by rw [E1.out, show inB mn mt = false by exact (show inB mn mt = false by first | exact decide_eq_false (by omega) | (unfold placeOk; exact decide_eq_false (by omega)) | (unfold inB; exact decide_eq_false (by omega)))]; rfl)
    go_wp2_with fail
    go_ret
    exact ⟨ret_bool F.out.symm, kt BV.out BB.out⟩
  have g01 : decide (mt < (mn : Int)) = true := by simp; omega
  have h0 : inB mn mt = true := by first | exact decide_eq_true (by omega) | (unfold placeOk; exact decide_eq_true (by omega)) | (unfold inB; exact decide_eq_true (by omega))
  have E2 : Hid (irB ps rg cn mn q (10, r, ra, rb, k, args, cost, mt, ip) = decide ((r, ra, rb, k, args, mt) = (0, 0, 0, 0, [], mt))) := hid (by rw [E1.out, show inB mn mt = true by exact h0]; rfl)
  clear h0
  go_upto_region 53 with fail
  by_cases n0 : xn = 0
  rotate_left
  · have F : Hid (irB ps rg cn mn q (10, r, ra, rb, k, args, cost, mt, ip) = false) := hid (by rw [E2.out]; refine decide_eq_false (fun e => ?_); simp only [Prod.mk.injEq] at e; have := LX.out; rw [e.2.2.2.2.1] at this; exact n0 (by simpa using this))
    have n0' : ((0 : Int) == (xn : Int)) = false := by simp; omega
    go_wp2_with fail
    go_ret
    exact ⟨ret_bool F.out.symm, kt BV.out BB.out⟩
  have n0' : ((0 : Int) == (xn : Int)) = true := by simp; omega
  have N0 := hid n0
  clear n0
  by_cases n1 : r = 0
  rotate_left
  · have F : Hid (irB ps rg cn mn q (10, r, ra, rb, k, args, cost, mt, ip) = false) := hid (by rw [E2.out]; refine decide_eq_false (fun e => ?_); simp only [Prod.mk.injEq] at e; exact n1 (by simpa using e.1))
    have n1' : (r == 0) = false := by simp; omega
    go_wp2_with fail
    go_ret
    exact ⟨ret_bool F.out.symm, kt BV.out BB.out⟩
  have n1' : (r == 0) = true := by simp; omega
  have N1 := hid n1
  clear n1
  by_cases n2 : ra = 0
  rotate_left
  · have F : Hid (irB ps rg cn mn q (10, r, ra, rb, k, args, cost, mt, ip) = false) := hid (by rw [E2.out]; refine decide_eq_false (fun e => ?_); simp only [Prod.mk.injEq] at e; exact n2 (by simpa using e.2.1))
    have n2' : (ra == 0) = false := by simp; omega
    go_wp2_with fail
    go_ret
    exact ⟨ret_bool F.out.symm, kt BV.out BB.out⟩
  have n2' : (ra == 0) = true := by simp; omega
  have N2 := hid n2
  clear n2
  by_cases n3 : rb = 0
  rotate_left
  · have F : Hid (irB ps rg cn mn q (10, r, ra, rb, k, args, cost, mt, ip) = false) := hid (by rw [E2.out]; refine decide_eq_false (fun e => ?_); simp only [Prod.mk.injEq] at e; exact n3 (by simpa using e.2.2.1))
    have n3' : (rb == 0) = false := by simp; omega
    go_wp2_with fail
    go_ret
    exact ⟨ret_bool F.out.symm, kt BV.out BB.out⟩
  have n3' : (rb == 0) = true := by simp; omega
  have N3 := hid n3
  clear n3
  by_cases n4 : k = 0
  rotate_left
  · have F : Hid (irB ps rg cn mn q (10, r, ra, rb, k, args, cost, mt, ip) = false) := hid (by rw [E2.out]; refine decide_eq_false (fun e => ?_); simp only [Prod.mk.injEq] at e; exact n4 (by simpa using e.2.2.2.1))
    have n4' : (k == 0) = false := by simp; omega
    go_wp2_with fail
    go_ret
    exact ⟨ret_bool F.out.symm, kt BV.out BB.out⟩
  have n4' : (k == 0) = true := by simp; omega
  have N4 := hid n4
  clear n4
  have F : Hid (irB ps rg cn mn q (10, r, ra, rb, k, args, cost, mt, ip) = true) := hid (by
    rw [E2.out]
    refine decide_eq_true ?_
    have ha : args = [] := List.length_eq_zero_iff.1 (by have := LX.out; have := N0.out; omega)
    rw [ha, N1.out, N2.out, N3.out, N4.out])
  go_wp2_with fail
  go_ret
  exact ⟨ret_bool F.out.symm, kt BV.out BB.out⟩

end Go.Proofs.YtfnfbebkeoilfaaGreatDoor

namespace Go.Proofs.YtfnfbebkeoilfaaGreatDoor
open Go.RowKit
set_option linter.unusedVariables false

set_option maxRecDepth 100000 in
set_option maxHeartbeats 16000000 in
theorem refIr11_any (pa : Option Addr) (pn pc : Nat) (cn cc : Nat) (ma : Option Addr) (mn mc : Nat) (ps : List Fn) (cf rg : Int) (q : Nat) (b o : Nat) (r ra rb k : Int) (xa : Option Addr) (xn xc : Nat) (args : List Int) (cost mt ip : Int) (w : World) (hp : Fns w pa pn pc ps) (hq : q < cn) (hr : cn * 88 ≤ 140737488351232) (hcc : cn ≤ cc) (hm : mn * 24 ≤ 140737488351232)
    (e0 : w.cell? ⟨b, o + q * 9, none⟩ = some (.int .i64 11)) (e1 : w.cell? ⟨b, o + q * 9 + 1, none⟩ = some (.int .i64 r)) (e2 : w.cell? ⟨b, o + q * 9 + 2, none⟩ = some (.int .i64 ra)) (e3 : w.cell? ⟨b, o + q * 9 + 3, none⟩ = some (.int .i64 rb)) (e4 : w.cell? ⟨b, o + q * 9 + 4, none⟩ = some (.int .i64 k)) (e5 : w.cell? ⟨b, o + q * 9 + 5, none⟩ = some (.slice xa xn xc)) (e6 : w.cell? ⟨b, o + q * 9 + 6, none⟩ = some (.int .i64 cost)) (e7 : w.cell? ⟨b, o + q * 9 + 7, none⟩ = some (.int .i64 mt)) (e8 : w.cell? ⟨b, o + q * 9 + 8, none⟩ = some (.int .i64 ip)) (hx : Ints w xa xn xc args) :
    Calls Tryz.prog 21 #[.agg #[.slice pa pn pc], .agg #[.int .i64 cf, .int .i64 rg, .slice (some ⟨b, o, none⟩) cn cc, .slice ma mn mc], .int .i64 (q : Int)] w fun e w' => e = .returned (.bool (irB ps rg cn mn q (11, r, ra, rb, k, args, cost, mt, ip))) ∧ Below w.heap.size w w' := by
  have EK : Hid (irB ps rg cn mn q (11, r, ra, rb, k, args, cost, mt, ip) = (headI cost ip && (true && decide ((r, ra, rb, k, args, mt) = (0, 0, 0, 0, [], 0))))) := hid irB_k11
  have z := lt_of_cell e0
  have HP := hid hp
  have LP := hid hp.len
  have hpr := hp.room
  have LX := hid hx.len
  have hxr := hx.room
  have HX := hid hx
  clear hp hx
  go_enter Tryz.func21, Tryz.ntmps21
  go_upto_region 3 with fail
  refine wp_name ?_
  intro U hU
  have B : Hid (Below w.heap.size w U) := hid (by rw [hU]; go_grown)
  have p0 : U.cell? ⟨w.heap.size, 0, none⟩ = some (.slice pa pn pc) := by rw [hU]; simp [go_sem]
  have c0 : U.cell? ⟨w.heap.size + 1, 0, none⟩ = some (.int .i64 cf) := by rw [hU]; simp [go_sem]
  have c1 : U.cell? ⟨w.heap.size + 1, 1, none⟩ = some (.int .i64 rg) := by rw [hU]; simp [go_sem]
  have c2 : U.cell? ⟨w.heap.size + 1, 2, none⟩ = some (.slice (some ⟨b, o, none⟩) cn cc) := by rw [hU]; simp [go_sem]
  have c3 : U.cell? ⟨w.heap.size + 1, 3, none⟩ = some (.slice ma mn mc) := by rw [hU]; simp [go_sem]
  have x0 : U.cell? ⟨w.heap.size + 1 + 1, 0, none⟩ = some (.int .i64 11) := by rw [hU]; simp [go_sem]
  have x1 : U.cell? ⟨w.heap.size + 1 + 1, 1, none⟩ = some (.int .i64 r) := by rw [hU]; simp [go_sem]
  have x2 : U.cell? ⟨w.heap.size + 1 + 1, 2, none⟩ = some (.int .i64 ra) := by rw [hU]; simp [go_sem]
  have x3 : U.cell? ⟨w.heap.size + 1 + 1, 3, none⟩ = some (.int .i64 rb) := by rw [hU]; simp [go_sem]
  have x4 : U.cell? ⟨w.heap.size + 1 + 1, 4, none⟩ = some (.int .i64 k) := by rw [hU]; simp [go_sem]
  have x5 : U.cell? ⟨w.heap.size + 1 + 1, 5, none⟩ = some (.slice xa xn xc) := by rw [hU]; simp [go_sem]
  have x6 : U.cell? ⟨w.heap.size + 1 + 1, 6, none⟩ = some (.int .i64 cost) := by rw [hU]; simp [go_sem]
  have x7 : U.cell? ⟨w.heap.size + 1 + 1, 7, none⟩ = some (.int .i64 mt) := by rw [hU]; simp [go_sem]
  have x8 : U.cell? ⟨w.heap.size + 1 + 1, 8, none⟩ = some (.int .i64 ip) := by rw [hU]; simp [go_sem]
  have y0 : U.cell? ⟨w.heap.size + 1 + 1 + 1, 0, none⟩ = some (.int .i64 11) := by rw [hU]; simp [go_sem]
  have y1 : U.cell? ⟨w.heap.size + 1 + 1 + 1, 1, none⟩ = some (.int .i64 0) := by rw [hU]; simp [go_sem]
  have y2 : U.cell? ⟨w.heap.size + 1 + 1 + 1, 2, none⟩ = some (.int .i64 0) := by rw [hU]; simp [go_sem]
  have y3 : U.cell? ⟨w.heap.size + 1 + 1 + 1, 3, none⟩ = some (.int .i64 0) := by rw [hU]; simp [go_sem]
  have y4 : U.cell? ⟨w.heap.size + 1 + 1 + 1, 4, none⟩ = some (.int .i64 0) := by rw [hU]; simp [go_sem]
  have y5 : U.cell? ⟨w.heap.size + 1 + 1 + 1, 5, none⟩ = some (.slice none 0 0) := by rw [hU]; simp [go_sem]
  have y6 : U.cell? ⟨w.heap.size + 1 + 1 + 1, 6, none⟩ = some (.int .i64 cost) := by rw [hU]; simp [go_sem]
  have y7 : U.cell? ⟨w.heap.size + 1 + 1 + 1, 7, none⟩ = some (.int .i64 0) := by rw [hU]; simp [go_sem]
  have y8 : U.cell? ⟨w.heap.size + 1 + 1 + 1, 8, none⟩ = some (.int .i64 ip) := by rw [hU]; simp [go_sem]
  have yf : ∀ j, U.frozen? ⟨w.heap.size + 1 + 1 + 1, j, none⟩ = false := by intro j; rw [hU]; simp [go_sem]
  clear hU e0 e1 e2 e3 e4 e5 e6 e7 e8
  by_cases k0 : 0 ≤ cost
  rotate_left
  · have F : Hid (irB ps rg cn mn q (11, r, ra, rb, k, args, cost, mt, ip) = false) := hid (by rw [EK.out, show headI cost ip = false by unfold headI; exact decide_eq_false (by omega)]; rfl)
    have k0' : decide (0 ≤ cost) = false := by simpa using k0
    go_wp2_with fail
    go_ret
    exact ⟨ret_bool F.out.symm, by repeat (first | exact B.out | refine Below.setCell ?_ (by simp; omega) _)⟩
  by_cases k1 : cost ≤ 256
  rotate_left
  · have F : Hid (irB ps rg cn mn q (11, r, ra, rb, k, args, cost, mt, ip) = false) := hid (by rw [EK.out, show headI cost ip = false by unfold headI; exact decide_eq_false (by omega)]; rfl)
    have k1' : decide (cost ≤ 256) = false := by simpa using k1
    go_wp2_with fail
    go_ret
    exact ⟨ret_bool F.out.symm, by repeat (first | exact B.out | refine Below.setCell ?_ (by simp; omega) _)⟩
  by_cases k2 : 0 ≤ ip
  rotate_left
  · have F : Hid (irB ps rg cn mn q (11, r, ra, rb, k, args, cost, mt, ip) = false) := hid (by rw [EK.out, show headI cost ip = false by unfold headI; exact decide_eq_false (by omega)]; rfl)
    have k2' : decide (0 ≤ ip) = false := by simpa using k2
    go_wp2_with fail
    go_ret
    exact ⟨ret_bool F.out.symm, by repeat (first | exact B.out | refine Below.setCell ?_ (by simp; omega) _)⟩
  by_cases k3 : ip < 64
  rotate_left
  · have F : Hid (irB ps rg cn mn q (11, r, ra, rb, k, args, cost, mt, ip) = false) := hid (by rw [EK.out, show headI cost ip = false by unfold headI; exact decide_eq_false (by omega)]; rfl)
    have k3' : decide (ip < 64) = false := by simpa using k3
    go_wp2_with fail
    go_ret
    exact ⟨ret_bool F.out.symm, by repeat (first | exact B.out | refine Below.setCell ?_ (by simp; omega) _)⟩
  have k3' : decide (ip < 64) = true := by simpa using k3
  have hd : headI cost ip = true := by unfold headI; exact decide_eq_true (by omega)
  have E1 : Hid (irB ps rg cn mn q (11, r, ra, rb, k, args, cost, mt, ip) = (true && decide ((r, ra, rb, k, args, mt) = (0, 0, 0, 0, [], 0)))) := hid (by rw [EK.out, hd]; rfl)
  clear hd
  replace E1 : Hid (irB ps rg cn mn q (11, r, ra, rb, k, args, cost, mt, ip) = decide ((r, ra, rb, k, args, mt) = (0, 0, 0, 0, [], 0))) := hid (by rw [E1.out]; rfl)
  by_cases n0 : xn = 0
  rotate_left
  · have F : Hid (irB ps rg cn mn q (11, r, ra, rb, k, args, cost, mt, ip) = false) := hid (by rw [E1.out]; refine decide_eq_false (fun e => ?_); simp only [Prod.mk.injEq] at e; have := LX.out; rw [e.2.2.2.2.1] at this; exact n0 (by simpa using this))
    have n0' : ((0 : Int) == (xn : Int)) = false := by simp; omega
    go_wp2_with fail
    go_ret
    exact ⟨ret_bool F.out.symm, B.out⟩
  have n0' : ((0 : Int) == (xn : Int)) = true := by simp; omega
  have N0 := hid n0
  clear n0
  by_cases n1 : r = 0
  rotate_left
  · have F : Hid (irB ps rg cn mn q (11, r, ra, rb, k, args, cost, mt, ip) = false) := hid (by rw [E1.out]; refine decide_eq_false (fun e => ?_); simp only [Prod.mk.injEq] at e; exact n1 (by simpa using e.1))
    have n1' : (r == 0) = false := by simp; omega
    go_wp2_with fail
    go_ret
    exact ⟨ret_bool F.out.symm, B.out⟩
  have n1' : (r == 0) = true := by simp; omega
  have N1 := hid n1
  clear n1
  by_cases n2 : ra = 0
  rotate_left
  · have F : Hid (irB ps rg cn mn q (11, r, ra, rb, k, args, cost, mt, ip) = false) := hid (by rw [E1.out]; refine decide_eq_false (fun e => ?_); simp only [Prod.mk.injEq] at e; exact n2 (by simpa using e.2.1))
    have n2' : (ra == 0) = false := by simp; omega
    go_wp2_with fail
    go_ret
    exact ⟨ret_bool F.out.symm, B.out⟩
  have n2' : (ra == 0) = true := by simp; omega
  have N2 := hid n2
  clear n2
  by_cases n3 : rb = 0
  rotate_left
  · have F : Hid (irB ps rg cn mn q (11, r, ra, rb, k, args, cost, mt, ip) = false) := hid (by rw [E1.out]; refine decide_eq_false (fun e => ?_); simp only [Prod.mk.injEq] at e; exact n3 (by simpa using e.2.2.1))
    have n3' : (rb == 0) = false := by simp; omega
    go_wp2_with fail
    go_ret
    exact ⟨ret_bool F.out.symm, B.out⟩
  have n3' : (rb == 0) = true := by simp; omega
  have N3 := hid n3
  clear n3
  by_cases n4 : k = 0
  rotate_left
  · have F : Hid (irB ps rg cn mn q (11, r, ra, rb, k, args, cost, mt, ip) = false) := hid (by rw [E1.out]; refine decide_eq_false (fun e => ?_); simp only [Prod.mk.injEq] at e; exact n4 (by simpa using e.2.2.2.1))
    have n4' : (k == 0) = false := by simp; omega
    go_wp2_with fail
    go_ret
    exact ⟨ret_bool F.out.symm, B.out⟩
  have n4' : (k == 0) = true := by simp; omega
  have N4 := hid n4
  clear n4
  by_cases n5 : mt = 0
  rotate_left
  · have F : Hid (irB ps rg cn mn q (11, r, ra, rb, k, args, cost, mt, ip) = false) := hid (by rw [E1.out]; refine decide_eq_false (fun e => ?_); simp only [Prod.mk.injEq] at e; exact n5 (by simpa using e.2.2.2.2.2))
    have n5' : (mt == 0) = false := by simp; omega
    go_wp2_with fail
    go_ret
    exact ⟨ret_bool F.out.symm, B.out⟩
  have n5' : (mt == 0) = true := by simp; omega
  have N5 := hid n5
  clear n5
  have F : Hid (irB ps rg cn mn q (11, r, ra, rb, k, args, cost, mt, ip) = true) := hid (by
    rw [E1.out]
    refine decide_eq_true ?_
    have ha : args = [] := List.length_eq_zero_iff.1 (by have := LX.out; have := N0.out; omega)
    rw [ha, N1.out, N2.out, N3.out, N4.out, N5.out])
  go_wp2_with fail
  go_ret
  exact ⟨ret_bool F.out.symm, B.out⟩

end Go.Proofs.YtfnfbebkeoilfaaGreatDoor

namespace Go.Proofs.YtfnfbebkeoilfaaGreatDoor
open Go.RowKit
set_option linter.unusedVariables false

set_option maxRecDepth 100000 in
set_option maxHeartbeats 16000000 in
theorem refIrNo_any (pa : Option Addr) (pn pc : Nat) (cn cc : Nat) (ma : Option Addr) (mn mc : Nat) (ps : List Fn) (cf rg : Int) (q : Nat) (b o : Nat) (kd r ra rb k : Int) (xa : Option Addr) (xn xc : Nat) (args : List Int) (cost mt ip : Int) (w : World) (hp : Fns w pa pn pc ps) (hq : q < cn) (hr : cn * 88 ≤ 140737488351232) (hcc : cn ≤ cc) (hm : mn * 24 ≤ 140737488351232)
    (e0 : w.cell? ⟨b, o + q * 9, none⟩ = some (.int .i64 kd)) (e1 : w.cell? ⟨b, o + q * 9 + 1, none⟩ = some (.int .i64 r)) (e2 : w.cell? ⟨b, o + q * 9 + 2, none⟩ = some (.int .i64 ra)) (e3 : w.cell? ⟨b, o + q * 9 + 3, none⟩ = some (.int .i64 rb)) (e4 : w.cell? ⟨b, o + q * 9 + 4, none⟩ = some (.int .i64 k)) (e5 : w.cell? ⟨b, o + q * 9 + 5, none⟩ = some (.slice xa xn xc)) (e6 : w.cell? ⟨b, o + q * 9 + 6, none⟩ = some (.int .i64 cost)) (e7 : w.cell? ⟨b, o + q * 9 + 7, none⟩ = some (.int .i64 mt)) (e8 : w.cell? ⟨b, o + q * 9 + 8, none⟩ = some (.int .i64 ip)) (hx : Ints w xa xn xc args) (hk : ¬ (0 ≤ kd ∧ kd ≤ 11)) :
    Calls Tryz.prog 21 #[.agg #[.slice pa pn pc], .agg #[.int .i64 cf, .int .i64 rg, .slice (some ⟨b, o, none⟩) cn cc, .slice ma mn mc], .int .i64 (q : Int)] w fun e w' => e = .returned (.bool (irB ps rg cn mn q (kd, r, ra, rb, k, args, cost, mt, ip))) ∧ Below w.heap.size w w' := by
  have F : Hid (irB ps rg cn mn q (kd, r, ra, rb, k, args, cost, mt, ip) = false) := hid (irB_no hk)
  have h0 : (kd == 0) = false := by simp; omega
  have h1 : (kd == 1) = false := by simp; omega
  have h2 : (kd == 2) = false := by simp; omega
  have h3 : (kd == 3) = false := by simp; omega
  have h4 : (kd == 4) = false := by simp; omega
  have h5 : (kd == 5) = false := by simp; omega
  have h6 : (kd == 6) = false := by simp; omega
  have h7 : (kd == 7) = false := by simp; omega
  have h8 : (kd == 8) = false := by simp; omega
  have h9 : (kd == 9) = false := by simp; omega
  have h10 : (kd == 10) = false := by simp; omega
  have h11 : (kd == 11) = false := by simp; omega
  clear hk
  have z := lt_of_cell e0
  have HP := hid hp
  have LP := hid hp.len
  have hpr := hp.room
  have LX := hid hx.len
  have hxr := hx.room
  have HX := hid hx
  clear hp hx
  go_enter Tryz.func21, Tryz.ntmps21
  go_upto_region 3 with fail
  refine wp_name ?_
  intro U hU
  have B : Hid (Below w.heap.size w U) := hid (by rw [hU]; go_grown)
  have p0 : U.cell? ⟨w.heap.size, 0, none⟩ = some (.slice pa pn pc) := by rw [hU]; simp [go_sem]
  have c0 : U.cell? ⟨w.heap.size + 1, 0, none⟩ = some (.int .i64 cf) := by rw [hU]; simp [go_sem]
  have c1 : U.cell? ⟨w.heap.size + 1, 1, none⟩ = some (.int .i64 rg) := by rw [hU]; simp [go_sem]
  have c2 : U.cell? ⟨w.heap.size + 1, 2, none⟩ = some (.slice (some ⟨b, o, none⟩) cn cc) := by rw [hU]; simp [go_sem]
  have c3 : U.cell? ⟨w.heap.size + 1, 3, none⟩ = some (.slice ma mn mc) := by rw [hU]; simp [go_sem]
  have x0 : U.cell? ⟨w.heap.size + 1 + 1, 0, none⟩ = some (.int .i64 kd) := by rw [hU]; simp [go_sem]
  have x1 : U.cell? ⟨w.heap.size + 1 + 1, 1, none⟩ = some (.int .i64 r) := by rw [hU]; simp [go_sem]
  have x2 : U.cell? ⟨w.heap.size + 1 + 1, 2, none⟩ = some (.int .i64 ra) := by rw [hU]; simp [go_sem]
  have x3 : U.cell? ⟨w.heap.size + 1 + 1, 3, none⟩ = some (.int .i64 rb) := by rw [hU]; simp [go_sem]
  have x4 : U.cell? ⟨w.heap.size + 1 + 1, 4, none⟩ = some (.int .i64 k) := by rw [hU]; simp [go_sem]
  have x5 : U.cell? ⟨w.heap.size + 1 + 1, 5, none⟩ = some (.slice xa xn xc) := by rw [hU]; simp [go_sem]
  have x6 : U.cell? ⟨w.heap.size + 1 + 1, 6, none⟩ = some (.int .i64 cost) := by rw [hU]; simp [go_sem]
  have x7 : U.cell? ⟨w.heap.size + 1 + 1, 7, none⟩ = some (.int .i64 mt) := by rw [hU]; simp [go_sem]
  have x8 : U.cell? ⟨w.heap.size + 1 + 1, 8, none⟩ = some (.int .i64 ip) := by rw [hU]; simp [go_sem]
  have y0 : U.cell? ⟨w.heap.size + 1 + 1 + 1, 0, none⟩ = some (.int .i64 kd) := by rw [hU]; simp [go_sem]
  have y1 : U.cell? ⟨w.heap.size + 1 + 1 + 1, 1, none⟩ = some (.int .i64 0) := by rw [hU]; simp [go_sem]
  have y2 : U.cell? ⟨w.heap.size + 1 + 1 + 1, 2, none⟩ = some (.int .i64 0) := by rw [hU]; simp [go_sem]
  have y3 : U.cell? ⟨w.heap.size + 1 + 1 + 1, 3, none⟩ = some (.int .i64 0) := by rw [hU]; simp [go_sem]
  have y4 : U.cell? ⟨w.heap.size + 1 + 1 + 1, 4, none⟩ = some (.int .i64 0) := by rw [hU]; simp [go_sem]
  have y5 : U.cell? ⟨w.heap.size + 1 + 1 + 1, 5, none⟩ = some (.slice none 0 0) := by rw [hU]; simp [go_sem]
  have y6 : U.cell? ⟨w.heap.size + 1 + 1 + 1, 6, none⟩ = some (.int .i64 cost) := by rw [hU]; simp [go_sem]
  have y7 : U.cell? ⟨w.heap.size + 1 + 1 + 1, 7, none⟩ = some (.int .i64 0) := by rw [hU]; simp [go_sem]
  have y8 : U.cell? ⟨w.heap.size + 1 + 1 + 1, 8, none⟩ = some (.int .i64 ip) := by rw [hU]; simp [go_sem]
  have yf : ∀ j, U.frozen? ⟨w.heap.size + 1 + 1 + 1, j, none⟩ = false := by intro j; rw [hU]; simp [go_sem]
  clear hU e0 e1 e2 e3 e4 e5 e6 e7 e8
  by_cases k0 : 0 ≤ cost
  rotate_left
  · have k0' : decide (0 ≤ cost) = false := by simpa using k0
    go_wp2_with fail
    go_ret
    exact ⟨ret_bool F.out.symm, B.out⟩
  by_cases k1 : cost ≤ 256
  rotate_left
  · have k1' : decide (cost ≤ 256) = false := by simpa using k1
    go_wp2_with fail
    go_ret
    exact ⟨ret_bool F.out.symm, B.out⟩
  by_cases k2 : 0 ≤ ip
  rotate_left
  · have k2' : decide (0 ≤ ip) = false := by simpa using k2
    go_wp2_with fail
    go_ret
    exact ⟨ret_bool F.out.symm, B.out⟩
  by_cases k3 : ip < 64
  rotate_left
  · have k3' : decide (ip < 64) = false := by simpa using k3
    go_wp2_with fail
    go_ret
    exact ⟨ret_bool F.out.symm, B.out⟩
  have k3' : decide (ip < 64) = true := by simpa using k3
  go_wp2_with fail
  go_ret
  exact ⟨ret_bool F.out.symm, B.out⟩

end Go.Proofs.YtfnfbebkeoilfaaGreatDoor

namespace Go.Proofs.YtfnfbebkeoilfaaGreatDoor
open Go.RowKit
set_option linter.unusedVariables false

theorem refIrMay_any (pa : Option Addr) (pn pc : Nat) (ca : Option Addr) (cn cc : Nat) (ma : Option Addr) (mn mc : Nat) (ps : List Fn) (cf rg : Int) (q : Nat) (cl : List IrT) (w : World) (hp : Fns w pa pn pc ps) (hc : Sl layIr 88 w ca cn cc cl) (hm : mn * 24 ≤ 140737488351232) (hq : q < cn) :
    Calls Tryz.prog 21 #[.agg #[.slice pa pn pc], .agg #[.int .i64 cf, .int .i64 rg, .slice ca cn cc, .slice ma mn mc], .int .i64 (q : Int)] w fun e w' => ∃ x, cl[q]? = some x ∧ e = .returned (.bool (irB ps rg cn mn q x)) ∧ Below w.heap.size w w' := by
  have hr := hc.room
  have hcc := hc.cap
  obtain ⟨b, o, kd, r, ra, rb, k, xa, xn, xc, args, cost, mt, ip, rfl, hxq, e0, e1, e2, e3, e4, e5, e6, e7, e8, hx⟩ := ir_at hc q hq
  have fin : ∀ {e : Ending} {w' : World}, (e = .returned (.bool (irB ps rg cn mn q (kd, r, ra, rb, k, args, cost, mt, ip))) ∧ Below w.heap.size w w') → ∃ x, cl[q]? = some x ∧ e = .returned (.bool (irB ps rg cn mn q x)) ∧ Below w.heap.size w w' := fun h => ⟨_, hxq, h⟩
  by_cases hk : 0 ≤ kd ∧ kd ≤ 11
  · have hc : kd = 0 ∨ kd = 1 ∨ kd = 2 ∨ kd = 3 ∨ kd = 4 ∨ kd = 5 ∨ kd = 6 ∨ kd = 7 ∨ kd = 8 ∨ kd = 9 ∨ kd = 10 ∨ kd = 11 := by omega
    rcases hc with rfl | rfl | rfl | rfl | rfl | rfl | rfl | rfl | rfl | rfl | rfl | rfl
    · exact (refIr0_any pa pn pc cn cc ma mn mc ps cf rg q b o r ra rb k xa xn xc args cost mt ip w hp hq hr hcc hm e0 e1 e2 e3 e4 e5 e6 e7 e8 hx).mono (fun _ _ h => fin h)
    · exact (refIr1_any pa pn pc cn cc ma mn mc ps cf rg q b o r ra rb k xa xn xc args cost mt ip w hp hq hr hcc hm e0 e1 e2 e3 e4 e5 e6 e7 e8 hx).mono (fun _ _ h => fin h)
    · exact (refIr2_any pa pn pc cn cc ma mn mc ps cf rg q b o r ra rb k xa xn xc args cost mt ip w hp hq hr hcc hm e0 e1 e2 e3 e4 e5 e6 e7 e8 hx).mono (fun _ _ h => fin h)
    · exact (refIr3_any pa pn pc cn cc ma mn mc ps cf rg q b o r ra rb k xa xn xc args cost mt ip w hp hq hr hcc hm e0 e1 e2 e3 e4 e5 e6 e7 e8 hx).mono (fun _ _ h => fin h)
    · exact (refIr4_any pa pn pc cn cc ma mn mc ps cf rg q b o r ra rb k xa xn xc args cost mt ip w hp hq hr hcc hm e0 e1 e2 e3 e4 e5 e6 e7 e8 hx).mono (fun _ _ h => fin h)
    · exact (refIr5_any pa pn pc cn cc ma mn mc ps cf rg q b o r ra rb k xa xn xc args cost mt ip w hp hq hr hcc hm e0 e1 e2 e3 e4 e5 e6 e7 e8 hx).mono (fun _ _ h => fin h)
    · exact (refIr6_any pa pn pc cn cc ma mn mc ps cf rg q b o r ra rb k xa xn xc args cost mt ip w hp hq hr hcc hm e0 e1 e2 e3 e4 e5 e6 e7 e8 hx).mono (fun _ _ h => fin h)
    · exact (refIr7_any pa pn pc cn cc ma mn mc ps cf rg q b o r ra rb k xa xn xc args cost mt ip w hp hq hr hcc hm e0 e1 e2 e3 e4 e5 e6 e7 e8 hx).mono (fun _ _ h => fin h)
    · exact (refIr8_any pa pn pc cn cc ma mn mc ps cf rg q b o r ra rb k xa xn xc args cost mt ip w hp hq hr hcc hm e0 e1 e2 e3 e4 e5 e6 e7 e8 hx).mono (fun _ _ h => fin h)
    · exact (refIr9_any pa pn pc cn cc ma mn mc ps cf rg q b o r ra rb k xa xn xc args cost mt ip w hp hq hr hcc hm e0 e1 e2 e3 e4 e5 e6 e7 e8 hx).mono (fun _ _ h => fin h)
    · exact (refIr10_any pa pn pc cn cc ma mn mc ps cf rg q b o r ra rb k xa xn xc args cost mt ip w hp hq hr hcc hm e0 e1 e2 e3 e4 e5 e6 e7 e8 hx).mono (fun _ _ h => fin h)
    · exact (refIr11_any pa pn pc cn cc ma mn mc ps cf rg q b o r ra rb k xa xn xc args cost mt ip w hp hq hr hcc hm e0 e1 e2 e3 e4 e5 e6 e7 e8 hx).mono (fun _ _ h => fin h)
  · exact (refIrNo_any pa pn pc cn cc ma mn mc ps cf rg q b o kd r ra rb k xa xn xc args cost mt ip w hp hq hr hcc hm e0 e1 e2 e3 e4 e5 e6 e7 e8 hx hk).mono (fun _ _ h => fin h)

end Go.Proofs.YtfnfbebkeoilfaaGreatDoor
