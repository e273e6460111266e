/- The document's own irMay: kind 0. Written by refirgen.py. -/
import Derived.Test.YtfnfbebkeoilfaaGreatDoorRefIrA
import Derived.Test.YtfnfbebkeoilfaaGreatDoorPlainIr3
namespace Go.Proofs.YtfnfbebkeoilfaaGreatDoor
open Go.RowKit
set_option linter.unusedVariables false

set_option maxRecDepth 100000 in
set_option maxHeartbeats 16000000 in
theorem refIr0_any (pa : Option Addr) (pn pc : Nat) (cn cc : Nat) (ma : Option Addr) (mn mc : Nat) (ps : List Fn) (cf rg : Int) (q : Nat) (b o : Nat) (r ra rb k : Int) (xa : Option Addr) (xn xc : Nat) (args : List Int) (cost mt ip : Int) (w : World) (hp : Fns w pa pn pc ps) (hq : q < cn) (hr : cn * 88 ≤ 140737488351232) (hcc : cn ≤ cc) (hm : mn * 24 ≤ 140737488351232)
    (e0 : w.cell? ⟨b, o + q * 9, none⟩ = some (.int .i64 0)) (e1 : w.cell? ⟨b, o + q * 9 + 1, none⟩ = some (.int .i64 r)) (e2 : w.cell? ⟨b, o + q * 9 + 2, none⟩ = some (.int .i64 ra)) (e3 : w.cell? ⟨b, o + q * 9 + 3, none⟩ = some (.int .i64 rb)) (e4 : w.cell? ⟨b, o + q * 9 + 4, none⟩ = some (.int .i64 k)) (e5 : w.cell? ⟨b, o + q * 9 + 5, none⟩ = some (.slice xa xn xc)) (e6 : w.cell? ⟨b, o + q * 9 + 6, none⟩ = some (.int .i64 cost)) (e7 : w.cell? ⟨b, o + q * 9 + 7, none⟩ = some (.int .i64 mt)) (e8 : w.cell? ⟨b, o + q * 9 + 8, none⟩ = some (.int .i64 ip)) (hx : Ints w xa xn xc args) :
    Calls Tryz.prog 21 #[.agg #[.slice pa pn pc], .agg #[.int .i64 cf, .int .i64 rg, .slice (some ⟨b, o, none⟩) cn cc, .slice ma mn mc], .int .i64 (q : Int)] w fun e w' => e = .returned (.bool (irB ps rg cn mn q (0, r, ra, rb, k, args, cost, mt, ip))) ∧ Below w.heap.size w w' := by
  have EK : Hid (irB ps rg cn mn q (0, r, ra, rb, k, args, cost, mt, ip) = (headI cost ip && (true && decide ((r, ra, rb, k, args, mt) = (0, 0, 0, 0, [], 0))))) := hid irB_k0
  have z := lt_of_cell e0
  have HP := hid hp
  have LP := hid hp.len
  have hpr := hp.room
  have LX := hid hx.len
  have hxr := hx.room
  have HX := hid hx
  clear hp hx
  go_enter Tryz.func21, Tryz.ntmps21
  go_upto_region 3 with fail
  refine wp_name ?_
  intro U hU
  have B : Hid (Below w.heap.size w U) := hid (by rw [hU]; go_grown)
  have p0 : U.cell? ⟨w.heap.size, 0, none⟩ = some (.slice pa pn pc) := by rw [hU]; simp [go_sem]
  have c0 : U.cell? ⟨w.heap.size + 1, 0, none⟩ = some (.int .i64 cf) := by rw [hU]; simp [go_sem]
  have c1 : U.cell? ⟨w.heap.size + 1, 1, none⟩ = some (.int .i64 rg) := by rw [hU]; simp [go_sem]
  have c2 : U.cell? ⟨w.heap.size + 1, 2, none⟩ = some (.slice (some ⟨b, o, none⟩) cn cc) := by rw [hU]; simp [go_sem]
  have c3 : U.cell? ⟨w.heap.size + 1, 3, none⟩ = some (.slice ma mn mc) := by rw [hU]; simp [go_sem]
  have x0 : U.cell? ⟨w.heap.size + 1 + 1, 0, none⟩ = some (.int .i64 0) := by rw [hU]; simp [go_sem]
  have x1 : U.cell? ⟨w.heap.size + 1 + 1, 1, none⟩ = some (.int .i64 r) := by rw [hU]; simp [go_sem]
  have x2 : U.cell? ⟨w.heap.size + 1 + 1, 2, none⟩ = some (.int .i64 ra) := by rw [hU]; simp [go_sem]
  have x3 : U.cell? ⟨w.heap.size + 1 + 1, 3, none⟩ = some (.int .i64 rb) := by rw [hU]; simp [go_sem]
  have x4 : U.cell? ⟨w.heap.size + 1 + 1, 4, none⟩ = some (.int .i64 k) := by rw [hU]; simp [go_sem]
  have x5 : U.cell? ⟨w.heap.size + 1 + 1, 5, none⟩ = some (.slice xa xn xc) := by rw [hU]; simp [go_sem]
  have x6 : U.cell? ⟨w.heap.size + 1 + 1, 6, none⟩ = some (.int .i64 cost) := by rw [hU]; simp [go_sem]
  have x7 : U.cell? ⟨w.heap.size + 1 + 1, 7, none⟩ = some (.int .i64 mt) := by rw [hU]; simp [go_sem]
  have x8 : U.cell? ⟨w.heap.size + 1 + 1, 8, none⟩ = some (.int .i64 ip) := by rw [hU]; simp [go_sem]
  have y0 : U.cell? ⟨w.heap.size + 1 + 1 + 1, 0, none⟩ = some (.int .i64 0) := by rw [hU]; simp [go_sem]
  have y1 : U.cell? ⟨w.heap.size + 1 + 1 + 1, 1, none⟩ = some (.int .i64 0) := by rw [hU]; simp [go_sem]
  have y2 : U.cell? ⟨w.heap.size + 1 + 1 + 1, 2, none⟩ = some (.int .i64 0) := by rw [hU]; simp [go_sem]
  have y3 : U.cell? ⟨w.heap.size + 1 + 1 + 1, 3, none⟩ = some (.int .i64 0) := by rw [hU]; simp [go_sem]
  have y4 : U.cell? ⟨w.heap.size + 1 + 1 + 1, 4, none⟩ = some (.int .i64 0) := by rw [hU]; simp [go_sem]
  have y5 : U.cell? ⟨w.heap.size + 1 + 1 + 1, 5, none⟩ = some (.slice none 0 0) := by rw [hU]; simp [go_sem]
  have y6 : U.cell? ⟨w.heap.size + 1 + 1 + 1, 6, none⟩ = some (.int .i64 cost) := by rw [hU]; simp [go_sem]
  have y7 : U.cell? ⟨w.heap.size + 1 + 1 + 1, 7, none⟩ = some (.int .i64 0) := by rw [hU]; simp [go_sem]
  have y8 : U.cell? ⟨w.heap.size + 1 + 1 + 1, 8, none⟩ = some (.int .i64 ip) := by rw [hU]; simp [go_sem]
  have yf : ∀ j, U.frozen? ⟨w.heap.size + 1 + 1 + 1, j, none⟩ = false := by intro j; rw [hU]; simp [go_sem]
  clear hU e0 e1 e2 e3 e4 e5 e6 e7 e8
  by_cases k0 : 0 ≤ cost
  rotate_left
  · have F : Hid (irB ps rg cn mn q (0, r, ra, rb, k, args, cost, mt, ip) = false) := hid (by rw [EK.out, show headI cost ip = false by unfold headI; exact decide_eq_false (by omega)]; rfl)
    have k0' : decide (0 ≤ cost) = false := by simpa using k0
    go_wp2_with fail
    go_ret
    exact ⟨ret_bool F.out.symm, by repeat (first | exact B.out | refine Below.setCell ?_ (by simp; omega) _)⟩
  by_cases k1 : cost ≤ 256
  rotate_left
  · have F : Hid (irB ps rg cn mn q (0, r, ra, rb, k, args, cost, mt, ip) = false) := hid (by rw [EK.out, show headI cost ip = false by unfold headI; exact decide_eq_false (by omega)]; rfl)
    have k1' : decide (cost ≤ 256) = false := by simpa using k1
    go_wp2_with fail
    go_ret
    exact ⟨ret_bool F.out.symm, by repeat (first | exact B.out | refine Below.setCell ?_ (by simp; omega) _)⟩
  by_cases k2 : 0 ≤ ip
  rotate_left
  · have F : Hid (irB ps rg cn mn q (0, r, ra, rb, k, args, cost, mt, ip) = false) := hid (by rw [EK.out, show headI cost ip = false by unfold headI; exact decide_eq_false (by omega)]; rfl)
    have k2' : decide (0 ≤ ip) = false := by simpa using k2
    go_wp2_with fail
    go_ret
    exact ⟨ret_bool F.out.symm, by repeat (first | exact B.out | refine Below.setCell ?_ (by simp; omega) _)⟩
  by_cases k3 : ip < 64
  rotate_left
  · have F : Hid (irB ps rg cn mn q (0, r, ra, rb, k, args, cost, mt, ip) = false) := hid (by rw [EK.out, show headI cost ip = false by unfold headI; exact decide_eq_false (by omega)]; rfl)
    have k3' : decide (ip < 64) = false := by simpa using k3
    go_wp2_with fail
    go_ret
    exact ⟨ret_bool F.out.symm, by repeat (first | exact B.out | refine Below.setCell ?_ (by simp; omega) _)⟩
  have k3' : decide (ip < 64) = true := by simpa using k3
  have hd : headI cost ip = true := by unfold headI; exact decide_eq_true (by omega)
  have E1 : Hid (irB ps rg cn mn q (0, r, ra, rb, k, args, cost, mt, ip) = (true && decide ((r, ra, rb, k, args, mt) = (0, 0, 0, 0, [], 0)))) := hid (by rw [EK.out, hd]; rfl)
  clear hd
  replace E1 : Hid (irB ps rg cn mn q (0, r, ra, rb, k, args, cost, mt, ip) = decide ((r, ra, rb, k, args, mt) = (0, 0, 0, 0, [], 0))) := hid (by rw [E1.out]; rfl)
  by_cases n0 : xn = 0
  rotate_left
  · have F : Hid (irB ps rg cn mn q (0, r, ra, rb, k, args, cost, mt, ip) = false) := hid (by rw [E1.out]; refine decide_eq_false (fun e => ?_); simp only [Prod.mk.injEq] at e; have := LX.out; rw [e.2.2.2.2.1] at this; exact n0 (by simpa using this))
    have n0' : ((0 : Int) == (xn : Int)) = false := by simp; omega
    go_wp2_with fail
    go_ret
    exact ⟨ret_bool F.out.symm, B.out⟩
  have n0' : ((0 : Int) == (xn : Int)) = true := by simp; omega
  have N0 := hid n0
  clear n0
  by_cases n1 : r = 0
  rotate_left
  · have F : Hid (irB ps rg cn mn q (0, r, ra, rb, k, args, cost, mt, ip) = false) := hid (by rw [E1.out]; refine decide_eq_false (fun e => ?_); simp only [Prod.mk.injEq] at e; exact n1 (by simpa using e.1))
    have n1' : (r == 0) = false := by simp; omega
    go_wp2_with fail
    go_ret
    exact ⟨ret_bool F.out.symm, B.out⟩
  have n1' : (r == 0) = true := by simp; omega
  have N1 := hid n1
  clear n1
  by_cases n2 : ra = 0
  rotate_left
  · have F : Hid (irB ps rg cn mn q (0, r, ra, rb, k, args, cost, mt, ip) = false) := hid (by rw [E1.out]; refine decide_eq_false (fun e => ?_); simp only [Prod.mk.injEq] at e; exact n2 (by simpa using e.2.1))
    have n2' : (ra == 0) = false := by simp; omega
    go_wp2_with fail
    go_ret
    exact ⟨ret_bool F.out.symm, B.out⟩
  have n2' : (ra == 0) = true := by simp; omega
  have N2 := hid n2
  clear n2
  by_cases n3 : rb = 0
  rotate_left
  · have F : Hid (irB ps rg cn mn q (0, r, ra, rb, k, args, cost, mt, ip) = false) := hid (by rw [E1.out]; refine decide_eq_false (fun e => ?_); simp only [Prod.mk.injEq] at e; exact n3 (by simpa using e.2.2.1))
    have n3' : (rb == 0) = false := by simp; omega
    go_wp2_with fail
    go_ret
    exact ⟨ret_bool F.out.symm, B.out⟩
  have n3' : (rb == 0) = true := by simp; omega
  have N3 := hid n3
  clear n3
  by_cases n4 : k = 0
  rotate_left
  · have F : Hid (irB ps rg cn mn q (0, r, ra, rb, k, args, cost, mt, ip) = false) := hid (by rw [E1.out]; refine decide_eq_false (fun e => ?_); simp only [Prod.mk.injEq] at e; exact n4 (by simpa using e.2.2.2.1))
    have n4' : (k == 0) = false := by simp; omega
    go_wp2_with fail
    go_ret
    exact ⟨ret_bool F.out.symm, B.out⟩
  have n4' : (k == 0) = true := by simp; omega
  have N4 := hid n4
  clear n4
  by_cases n5 : mt = 0
  rotate_left
  · have F : Hid (irB ps rg cn mn q (0, r, ra, rb, k, args, cost, mt, ip) = false) := hid (by rw [E1.out]; refine decide_eq_false (fun e => ?_); simp only [Prod.mk.injEq] at e; exact n5 (by simpa using e.2.2.2.2.2))
    have n5' : (mt == 0) = false := by simp; omega
    go_wp2_with fail
    go_ret
    exact ⟨ret_bool F.out.symm, B.out⟩
  have n5' : (mt == 0) = true := by simp; omega
  have N5 := hid n5
  clear n5
  have F : Hid (irB ps rg cn mn q (0, r, ra, rb, k, args, cost, mt, ip) = true) := hid (by
    rw [E1.out]
    refine decide_eq_true ?_
    have ha : args = [] := List.length_eq_zero_iff.1 (by have := LX.out; have := N0.out; omega)
    rw [ha, N1.out, N2.out, N3.out, N4.out, N5.out])
  go_wp2_with fail
  go_ret
  exact ⟨ret_bool F.out.symm, B.out⟩

end Go.Proofs.YtfnfbebkeoilfaaGreatDoor
