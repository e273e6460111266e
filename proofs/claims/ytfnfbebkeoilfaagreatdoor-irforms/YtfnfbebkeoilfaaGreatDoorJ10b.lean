/- The document's own answer: is it a register; what a code's instruction may be: what all kinds share. Written by refirgen.py. The document's own irMay: kind 0. Written by refirgen.py. The document's own irMay: kind 1. Written by refirgen.py. The document's own irMay: kind 2. Written by refirgen.py. The document's own irMay: kind 3. Written by refirgen.py. The document's own irMay: kind 4. Written by refirgen.py. The document's own irMay: kind 5. Written by refirgen.py. -/
import Derived.Test.YtfnfbebkeoilfaaGreatDoorJ10h
import Derived.Test.YtfnfbebkeoilfaaGreatDoorRefDo
import Derived.Test.YtfnfbebkeoilfaaGreatDoorWpName
import Derived.Deep.DeepCutAuto
import Derived.Test.YtfnfbebkeoilfaaGreatDoorJ10g
namespace Go.Proofs.YtfnfbebkeoilfaaGreatDoor
open Go.RowKit
set_option linter.unusedVariables false

set_option maxHeartbeats 1000000 in
theorem refReg_any (cf rg : Int) (ca : Option Addr) (cn cc : Nat) (ma : Option Addr) (mn mc : Nat) (x : Int) (w : World) :
    Calls Tryz.prog 38 #[.agg #[.int .i64 cf, .int .i64 rg, .slice ca cn cc, .slice ma mn mc], .int .i64 x] w fun e w' => e = .returned (.bool (regB rg x)) ∧ Below w.heap.size w w' := by
  by_cases h0 : 0 ≤ x
  · by_cases h1 : x < rg
    · have E : Hid (regB rg x = true) := hid (by simp [regB]; omega)
      go_enter Tryz.func38, Tryz.ntmps38
      go_wp2_with fail
      go_ret
      exact ⟨ret_bool (by rw [E.out]), by go_grown⟩
    · have E : Hid (regB rg x = false) := hid (by simp [regB]; omega)
      have h1' : decide (x < rg) = false := by simpa using h1
      go_enter Tryz.func38, Tryz.ntmps38
      go_wp2_with fail
      go_ret
      exact ⟨ret_bool (by rw [E.out]), by go_grown⟩
  · have E : Hid (regB rg x = false) := hid (by simp [regB]; omega)
    go_enter Tryz.func38, Tryz.ntmps38
    go_wp2_with fail
    go_ret
    exact ⟨ret_bool (by rw [E.out]), by go_grown⟩

end Go.Proofs.YtfnfbebkeoilfaaGreatDoor

namespace Go.Proofs.YtfnfbebkeoilfaaGreatDoor
open Go.RowKit
set_option linter.unusedVariables false

set_option maxRecDepth 100000 in
set_option maxHeartbeats 16000000 in
theorem refIr0_any (pa : Option Addr) (pn pc : Nat) (cn cc : Nat) (ma : Option Addr) (mn mc : Nat) (ps : List Fn) (cf rg : Int) (q : Nat) (b o : Nat) (r ra rb k : Int) (xa : Option Addr) (xn xc : Nat) (args : List Int) (cost mt ip : Int) (w : World) (hp : Fns w pa pn pc ps) (hq : q < cn) (hr : cn * 88 ≤ 140737488351232) (hcc : cn ≤ cc) (hm : mn * 24 ≤ 140737488351232)
    (e0 : w.cell? ⟨b, o + q * 9, none⟩ = some (.int .i64 0)) (e1 : w.cell? ⟨b, o + q * 9 + 1, none⟩ = some (.int .i64 r)) (e2 : w.cell? ⟨b, o + q * 9 + 2, none⟩ = some (.int .i64 ra)) (e3 : w.cell? ⟨b, o + q * 9 + 3, none⟩ = some (.int .i64 rb)) (e4 : w.cell? ⟨b, o + q * 9 + 4, none⟩ = some (.int .i64 k)) (e5 : w.cell? ⟨b, o + q * 9 + 5, none⟩ = some (.slice xa xn xc)) (e6 : w.cell? ⟨b, o + q * 9 + 6, none⟩ = some (.int .i64 cost)) (e7 : w.cell? ⟨b, o + q * 9 + 7, none⟩ = some (.int .i64 mt)) (e8 : w.cell? ⟨b, o + q * 9 + 8, none⟩ = some (.int .i64 ip)) (hx : Ints w xa xn xc args) :
    Calls Tryz.prog 21 #[.agg #[.slice pa pn pc], .agg #[.int .i64 cf, .int .i64 rg, .slice (some ⟨b, o, none⟩) cn cc, .slice ma mn mc], .int .i64 (q : Int)] w fun e w' => e = .returned (.bool (irB ps rg cn mn q (0, r, ra, rb, k, args, cost, mt, ip))) ∧ Below w.heap.size w w' := by
  have EK : Hid (irB ps rg cn mn q (0, r, ra, rb, k, args, cost, mt, ip) = (headI cost ip && (true && decide ((r, ra, rb, k, args, mt) = (0, 0, 0, 0, [], 0))))) := hid irB_k0
  have z := lt_of_cell e0
  have HP := hid hp
  have LP := hid hp.len
  have hpr := hp.room
  have LX := hid hx.len
  have hxr := hx.room
  have HX := hid hx
  clear hp hx
  go_enter Tryz.func21, Tryz.ntmps21
  go_upto_region 3 with fail
  refine wp_name ?_
  intro U hU
  have B : Hid (Below w.heap.size w U) := hid (by rw [hU]; go_grown)
  have p0 : U.cell? ⟨w.heap.size, 0, none⟩ = some (.slice pa pn pc) := by rw [hU]; simp [go_sem]
  have c0 : U.cell? ⟨w.heap.size + 1, 0, none⟩ = some (.int .i64 cf) := by rw [hU]; simp [go_sem]
  have c1 : U.cell? ⟨w.heap.size + 1, 1, none⟩ = some (.int .i64 rg) := by rw [hU]; simp [go_sem]
  have c2 : U.cell? ⟨w.heap.size + 1, 2, none⟩ = some (.slice (some ⟨b, o, none⟩) cn cc) := by rw [hU]; simp [go_sem]
  have c3 : U.cell? ⟨w.heap.size + 1, 3, none⟩ = some (.slice ma mn mc) := by rw [hU]; simp [go_sem]
  have x0 : U.cell? ⟨w.heap.size + 1 + 1, 0, none⟩ = some (.int .i64 0) := by rw [hU]; simp [go_sem]
  have x1 : U.cell? ⟨w.heap.size + 1 + 1, 1, none⟩ = some (.int .i64 r) := by rw [hU]; simp [go_sem]
  have x2 : U.cell? ⟨w.heap.size + 1 + 1, 2, none⟩ = some (.int .i64 ra) := by rw [hU]; simp [go_sem]
  have x3 : U.cell? ⟨w.heap.size + 1 + 1, 3, none⟩ = some (.int .i64 rb) := by rw [hU]; simp [go_sem]
  have x4 : U.cell? ⟨w.heap.size + 1 + 1, 4, none⟩ = some (.int .i64 k) := by rw [hU]; simp [go_sem]
  have x5 : U.cell? ⟨w.heap.size + 1 + 1, 5, none⟩ = some (.slice xa xn xc) := by rw [hU]; simp [go_sem]
  have x6 : U.cell? ⟨w.heap.size + 1 + 1, 6, none⟩ = some (.int .i64 cost) := by rw [hU]; simp [go_sem]
  have x7 : U.cell? ⟨w.heap.size + 1 + 1, 7, none⟩ = some (.int .i64 mt) := by rw [hU]; simp [go_sem]
  have x8 : U.cell? ⟨w.heap.size + 1 + 1, 8, none⟩ = some (.int .i64 ip) := by rw [hU]; simp [go_sem]
  have y0 : U.cell? ⟨w.heap.size + 1 + 1 + 1, 0, none⟩ = some (.int .i64 0) := by rw [hU]; simp [go_sem]
  have y1 : U.cell? ⟨w.heap.size + 1 + 1 + 1, 1, none⟩ = some (.int .i64 0) := by rw [hU]; simp [go_sem]
  have y2 : U.cell? ⟨w.heap.size + 1 + 1 + 1, 2, none⟩ = some (.int .i64 0) := by rw [hU]; simp [go_sem]
  have y3 : U.cell? ⟨w.heap.size + 1 + 1 + 1, 3, none⟩ = some (.int .i64 0) := by rw [hU]; simp [go_sem]
  have y4 : U.cell? ⟨w.heap.size + 1 + 1 + 1, 4, none⟩ = some (.int .i64 0) := by rw [hU]; simp [go_sem]
  have y5 : U.cell? ⟨w.heap.size + 1 + 1 + 1, 5, none⟩ = some (.slice none 0 0) := by rw [hU]; simp [go_sem]
  have y6 : U.cell? ⟨w.heap.size + 1 + 1 + 1, 6, none⟩ = some (.int .i64 cost) := by rw [hU]; simp [go_sem]
  have y7 : U.cell? ⟨w.heap.size + 1 + 1 + 1, 7, none⟩ = some (.int .i64 0) := by rw [hU]; simp [go_sem]
  have y8 : U.cell? ⟨w.heap.size + 1 + 1 + 1, 8, none⟩ = some (.int .i64 ip) := by rw [hU]; simp [go_sem]
  have yf : ∀ j, U.frozen? ⟨w.heap.size + 1 + 1 + 1, j, none⟩ = false := by intro j; rw [hU]; simp [go_sem]
  clear hU e0 e1 e2 e3 e4 e5 e6 e7 e8
  by_cases k0 : 0 ≤ cost
  rotate_left
  · have F : Hid (irB ps rg cn mn q (0, r, ra, rb, k, args, cost, mt, ip) = false) := hid (by rw [EK.out, show headI cost ip = false by unfold headI; exact decide_eq_false (by omega)]; rfl)
    have k0' : decide (0 ≤ cost) = false := by simpa using k0
    go_wp2_with fail
    go_ret
    exact ⟨ret_bool F.out.symm, by repeat (first | exact B.out | refine Below.setCell ?_ (by simp; omega) _)⟩
  by_cases k1 : cost ≤ 256
  rotate_left
  · have F : Hid (irB ps rg cn mn q (0, r, ra, rb, k, args, cost, mt, ip) = false) := hid (by rw [EK.out, show headI cost ip = false by unfold headI; exact decide_eq_false (by omega)]; rfl)
    have k1' : decide (cost ≤ 256) = false := by simpa using k1
    go_wp2_with fail
    go_ret
    exact ⟨ret_bool F.out.symm, by repeat (first | exact B.out | refine Below.setCell ?_ (by simp; omega) _)⟩
  by_cases k2 : 0 ≤ ip
  rotate_left
  · have F : Hid (irB ps rg cn mn q (0, r, ra, rb, k, args, cost, mt, ip) = false) := hid (by rw [EK.out, show headI cost ip = false by unfold headI; exact decide_eq_false (by omega)]; rfl)
    have k2' : decide (0 ≤ ip) = false := by simpa using k2
    go_wp2_with fail
    go_ret
    exact ⟨ret_bool F.out.symm, by repeat (first | exact B.out | refine Below.setCell ?_ (by simp; omega) _)⟩
  by_cases k3 : ip < 64
  rotate_left
  · have F : Hid (irB ps rg cn mn q (0, r, ra, rb, k, args, cost, mt, ip) = false) := hid (by rw [EK.out, show headI cost ip = false by unfold headI; exact decide_eq_false (by omega)]; rfl)
    have k3' : decide (ip < 64) = false := by simpa using k3
    go_wp2_with fail
    go_ret
    exact ⟨ret_bool F.out.symm, by repeat (first | exact B.out | refine Below.setCell ?_ (by simp; omega) _)⟩
  have k3' : decide (ip < 64) = true := by simpa using k3
  have hd : headI cost ip = true := by unfold headI; exact decide_eq_true (by omega)
  have E1 : Hid (irB ps rg cn mn q (0, r, ra, rb, k, args, cost, mt, ip) = (true && decide ((r, ra, rb, k, args, mt) = (0, 0, 0, 0, [], 0)))) := hid (by rw [EK.out, hd]; rfl)
  clear hd
  replace E1 : Hid (irB ps rg cn mn q (0, r, ra, rb, k, args, cost, mt, ip) = decide ((r, ra, rb, k, args, mt) = (0, 0, 0, 0, [], 0))) := hid (by rw [E1.out]; rfl)
  by_cases n0 : xn = 0
  rotate_left
  · have F : Hid (irB ps rg cn mn q (0, r, ra, rb, k, args, cost, mt, ip) = false) := hid (by rw [E1.out]; refine decide_eq_false (fun e => ?_); simp only [Prod.mk.injEq] at e; have := LX.out; rw [e.2.2.2.2.1] at this; exact n0 (by simpa using this))
    have n0' : ((0 : Int) == (xn : Int)) = false := by simp; omega
    go_wp2_with fail
    go_ret
    exact ⟨ret_bool F.out.symm, B.out⟩
  have n0' : ((0 : Int) == (xn : Int)) = true := by simp; omega
  have N0 := hid n0
  clear n0
  by_cases n1 : r = 0
  rotate_left
  · have F : Hid (irB ps rg cn mn q (0, r, ra, rb, k, args, cost, mt, ip) = false) := hid (by rw [E1.out]; refine decide_eq_false (fun e => ?_); simp only [Prod.mk.injEq] at e; exact n1 (by simpa using e.1))
    have n1' : (r == 0) = false := by simp; omega
    go_wp2_with fail
    go_ret
    exact ⟨ret_bool F.out.symm, B.out⟩
  have n1' : (r == 0) = true := by simp; omega
  have N1 := hid n1
  clear n1
  by_cases n2 : ra = 0
  rotate_left
  · have F : Hid (irB ps rg cn mn q (0, r, ra, rb, k, args, cost, mt, ip) = false) := hid (by rw [E1.out]; refine decide_eq_false (fun e => ?_); simp only [Prod.mk.injEq] at e; exact n2 (by simpa using e.2.1))
    have n2' : (ra == 0) = false := by simp; omega
    go_wp2_with fail
    go_ret
    exact ⟨ret_bool F.out.symm, B.out⟩
  have n2' : (ra == 0) = true := by simp; omega
  have N2 := hid n2
  clear n2
  by_cases n3 : rb = 0
  rotate_left
  · have F : Hid (irB ps rg cn mn q (0, r, ra, rb, k, args, cost, mt, ip) = false) := hid (by rw [E1.out]; refine decide_eq_false (fun e => ?_); simp only [Prod.mk.injEq] at e; exact n3 (by simpa using e.2.2.1))
    have n3' : (rb == 0) = false := by simp; omega
    go_wp2_with fail
    go_ret
    exact ⟨ret_bool F.out.symm, B.out⟩
  have n3' : (rb == 0) = true := by simp; omega
  have N3 := hid n3
  clear n3
  by_cases n4 : k = 0
  rotate_left
  · have F : Hid (irB ps rg cn mn q (0, r, ra, rb, k, args, cost, mt, ip) = false) := hid (by rw [E1.out]; refine decide_eq_false (fun e => ?_); simp only [Prod.mk.injEq] at e; exact n4 (by simpa using e.2.2.2.1))
    have n4' : (k == 0) = false := by simp; omega
    go_wp2_with fail
    go_ret
    exact ⟨ret_bool F.out.symm, B.out⟩
  have n4' : (k == 0) = true := by simp; omega
  have N4 := hid n4
  clear n4
  by_cases n5 : mt = 0
  rotate_left
  · have F : Hid (irB ps rg cn mn q (0, r, ra, rb, k, args, cost, mt, ip) = false) := hid (by rw [E1.out]; refine decide_eq_false (fun e => ?_); simp only [Prod.mk.injEq] at e; exact n5 (by simpa using e.2.2.2.2.2))
    have n5' : (mt == 0) = false := by simp; omega
    go_wp2_with fail
    go_ret
    exact ⟨ret_bool F.out.symm, B.out⟩
  have n5' : (mt == 0) = true := by simp; omega
  have N5 := hid n5
  clear n5
  have F : Hid (irB ps rg cn mn q (0, r, ra, rb, k, args, cost, mt, ip) = true) := hid (by
    rw [E1.out]
    refine decide_eq_true ?_
    have ha : args = [] := List.length_eq_zero_iff.1 (by have := LX.out; have := N0.out; omega)
    rw [ha, N1.out, N2.out, N3.out, N4.out, N5.out])
  go_wp2_with fail
  go_ret
  exact ⟨ret_bool F.out.symm, B.out⟩

end Go.Proofs.YtfnfbebkeoilfaaGreatDoor

namespace Go.Proofs.YtfnfbebkeoilfaaGreatDoor
open Go.RowKit
set_option linter.unusedVariables false

set_option maxRecDepth 100000 in
set_option maxHeartbeats 16000000 in
theorem refIr1_any (pa : Option Addr) (pn pc : Nat) (cn cc : Nat) (ma : Option Addr) (mn mc : Nat) (ps : List Fn) (cf rg : Int) (q : Nat) (b o : Nat) (r ra rb k : Int) (xa : Option Addr) (xn xc : Nat) (args : List Int) (cost mt ip : Int) (w : World) (hp : Fns w pa pn pc ps) (hq : q < cn) (hr : cn * 88 ≤ 140737488351232) (hcc : cn ≤ cc) (hm : mn * 24 ≤ 140737488351232)
    (e0 : w.cell? ⟨b, o + q * 9, none⟩ = some (.int .i64 1)) (e1 : w.cell? ⟨b, o + q * 9 + 1, none⟩ = some (.int .i64 r)) (e2 : w.cell? ⟨b, o + q * 9 + 2, none⟩ = some (.int .i64 ra)) (e3 : w.cell? ⟨b, o + q * 9 + 3, none⟩ = some (.int .i64 rb)) (e4 : w.cell? ⟨b, o + q * 9 + 4, none⟩ = some (.int .i64 k)) (e5 : w.cell? ⟨b, o + q * 9 + 5, none⟩ = some (.slice xa xn xc)) (e6 : w.cell? ⟨b, o + q * 9 + 6, none⟩ = some (.int .i64 cost)) (e7 : w.cell? ⟨b, o + q * 9 + 7, none⟩ = some (.int .i64 mt)) (e8 : w.cell? ⟨b, o + q * 9 + 8, none⟩ = some (.int .i64 ip)) (hx : Ints w xa xn xc args) :
    Calls Tryz.prog 21 #[.agg #[.slice pa pn pc], .agg #[.int .i64 cf, .int .i64 rg, .slice (some ⟨b, o, none⟩) cn cc, .slice ma mn mc], .int .i64 (q : Int)] w fun e w' => e = .returned (.bool (irB ps rg cn mn q (1, r, ra, rb, k, args, cost, mt, ip))) ∧ Below w.heap.size w w' := by
  have EK : Hid (irB ps rg cn mn q (1, r, ra, rb, k, args, cost, mt, ip) = (headI cost ip && ((regB rg r && isNum k) && decide ((r, ra, rb, k, args, mt) = (r, 0, 0, k, [], 0))))) := hid irB_k1
  have z := lt_of_cell e0
  have HP := hid hp
  have LP := hid hp.len
  have hpr := hp.room
  have LX := hid hx.len
  have hxr := hx.room
  have HX := hid hx
  clear hp hx
  go_enter Tryz.func21, Tryz.ntmps21
  go_upto_region 3 with fail
  refine wp_name ?_
  intro U hU
  have B : Hid (Below w.heap.size w U) := hid (by rw [hU]; go_grown)
  have p0 : U.cell? ⟨w.heap.size, 0, none⟩ = some (.slice pa pn pc) := by rw [hU]; simp [go_sem]
  have c0 : U.cell? ⟨w.heap.size + 1, 0, none⟩ = some (.int .i64 cf) := by rw [hU]; simp [go_sem]
  have c1 : U.cell? ⟨w.heap.size + 1, 1, none⟩ = some (.int .i64 rg) := by rw [hU]; simp [go_sem]
  have c2 : U.cell? ⟨w.heap.size + 1, 2, none⟩ = some (.slice (some ⟨b, o, none⟩) cn cc) := by rw [hU]; simp [go_sem]
  have c3 : U.cell? ⟨w.heap.size + 1, 3, none⟩ = some (.slice ma mn mc) := by rw [hU]; simp [go_sem]
  have x0 : U.cell? ⟨w.heap.size + 1 + 1, 0, none⟩ = some (.int .i64 1) := by rw [hU]; simp [go_sem]
  have x1 : U.cell? ⟨w.heap.size + 1 + 1, 1, none⟩ = some (.int .i64 r) := by rw [hU]; simp [go_sem]
  have x2 : U.cell? ⟨w.heap.size + 1 + 1, 2, none⟩ = some (.int .i64 ra) := by rw [hU]; simp [go_sem]
  have x3 : U.cell? ⟨w.heap.size + 1 + 1, 3, none⟩ = some (.int .i64 rb) := by rw [hU]; simp [go_sem]
  have x4 : U.cell? ⟨w.heap.size + 1 + 1, 4, none⟩ = some (.int .i64 k) := by rw [hU]; simp [go_sem]
  have x5 : U.cell? ⟨w.heap.size + 1 + 1, 5, none⟩ = some (.slice xa xn xc) := by rw [hU]; simp [go_sem]
  have x6 : U.cell? ⟨w.heap.size + 1 + 1, 6, none⟩ = some (.int .i64 cost) := by rw [hU]; simp [go_sem]
  have x7 : U.cell? ⟨w.heap.size + 1 + 1, 7, none⟩ = some (.int .i64 mt) := by rw [hU]; simp [go_sem]
  have x8 : U.cell? ⟨w.heap.size + 1 + 1, 8, none⟩ = some (.int .i64 ip) := by rw [hU]; simp [go_sem]
  have y0 : U.cell? ⟨w.heap.size + 1 + 1 + 1, 0, none⟩ = some (.int .i64 1) := by rw [hU]; simp [go_sem]
  have y1 : U.cell? ⟨w.heap.size + 1 + 1 + 1, 1, none⟩ = some (.int .i64 0) := by rw [hU]; simp [go_sem]
  have y2 : U.cell? ⟨w.heap.size + 1 + 1 + 1, 2, none⟩ = some (.int .i64 0) := by rw [hU]; simp [go_sem]
  have y3 : U.cell? ⟨w.heap.size + 1 + 1 + 1, 3, none⟩ = some (.int .i64 0) := by rw [hU]; simp [go_sem]
  have y4 : U.cell? ⟨w.heap.size + 1 + 1 + 1, 4, none⟩ = some (.int .i64 0) := by rw [hU]; simp [go_sem]
  have y5 : U.cell? ⟨w.heap.size + 1 + 1 + 1, 5, none⟩ = some (.slice none 0 0) := by rw [hU]; simp [go_sem]
  have y6 : U.cell? ⟨w.heap.size + 1 + 1 + 1, 6, none⟩ = some (.int .i64 cost) := by rw [hU]; simp [go_sem]
  have y7 : U.cell? ⟨w.heap.size + 1 + 1 + 1, 7, none⟩ = some (.int .i64 0) := by rw [hU]; simp [go_sem]
  have y8 : U.cell? ⟨w.heap.size + 1 + 1 + 1, 8, none⟩ = some (.int .i64 ip) := by rw [hU]; simp [go_sem]
  have yf : ∀ j, U.frozen? ⟨w.heap.size + 1 + 1 + 1, j, none⟩ = false := by intro j; rw [hU]; simp [go_sem]
  clear hU e0 e1 e2 e3 e4 e5 e6 e7 e8
  by_cases k0 : 0 ≤ cost
  rotate_left
  · have F : Hid (irB ps rg cn mn q (1, r, ra, rb, k, args, cost, mt, ip) = false) := hid (by rw [EK.out, show headI cost ip = false by unfold headI; exact decide_eq_false (by omega)]; rfl)
    have k0' : decide (0 ≤ cost) = false := by simpa using k0
    go_wp2_with fail
    go_ret
    exact ⟨ret_bool F.out.symm, by repeat (first | exact B.out | refine Below.setCell ?_ (by simp; omega) _)⟩
  by_cases k1 : cost ≤ 256
  rotate_left
  · have F : Hid (irB ps rg cn mn q (1, r, ra, rb, k, args, cost, mt, ip) = false) := hid (by rw [EK.out, show headI cost ip = false by unfold headI; exact decide_eq_false (by omega)]; rfl)
    have k1' : decide (cost ≤ 256) = false := by simpa using k1
    go_wp2_with fail
    go_ret
    exact ⟨ret_bool F.out.symm, by repeat (first | exact B.out | refine Below.setCell ?_ (by simp; omega) _)⟩
  by_cases k2 : 0 ≤ ip
  rotate_left
  · have F : Hid (irB ps rg cn mn q (1, r, ra, rb, k, args, cost, mt, ip) = false) := hid (by rw [EK.out, show headI cost ip = false by unfold headI; exact decide_eq_false (by omega)]; rfl)
    have k2' : decide (0 ≤ ip) = false := by simpa using k2
    go_wp2_with fail
    go_ret
    exact ⟨ret_bool F.out.symm, by repeat (first | exact B.out | refine Below.setCell ?_ (by simp; omega) _)⟩
  by_cases k3 : ip < 64
  rotate_left
  · have F : Hid (irB ps rg cn mn q (1, r, ra, rb, k, args, cost, mt, ip) = false) := hid (by rw [EK.out, show headI cost ip = false by unfold headI; exact decide_eq_false (by omega)]; rfl)
    have k3' : decide (ip < 64) = false := by simpa using k3
    go_wp2_with fail
    go_ret
    exact ⟨ret_bool F.out.symm, by repeat (first | exact B.out | refine Below.setCell ?_ (by simp; omega) _)⟩
  have k3' : decide (ip < 64) = true := by simpa using k3
  have hd : headI cost ip = true := by unfold headI; exact decide_eq_true (by omega)
  have E1 : Hid (irB ps rg cn mn q (1, r, ra, rb, k, args, cost, mt, ip) = ((regB rg r && isNum k) && decide ((r, ra, rb, k, args, mt) = (r, 0, 0, k, [], 0)))) := hid (by rw [EK.out, hd]; rfl)
  clear hd
  go_upto_region 12 with fail
  refine wp_name ?_
  intro V hV
  have BV : Hid (Below w.heap.size w V) := hid (by rw [hV]; repeat (first | exact B.out | refine Below.setCell ?_ (by simp; omega) _))
  have vp0 : V.cell? ⟨w.heap.size, 0, none⟩ = some (.slice pa pn pc) := by rw [hV]; simp [go_sem, p0]
  have vc0 : V.cell? ⟨w.heap.size + 1, 0, none⟩ = some (.int .i64 cf) := by rw [hV]; simp [go_sem, c0]
  have vc1 : V.cell? ⟨w.heap.size + 1, 1, none⟩ = some (.int .i64 rg) := by rw [hV]; simp [go_sem, c1]
  have vc2 : V.cell? ⟨w.heap.size + 1, 2, none⟩ = some (.slice (some ⟨b, o, none⟩) cn cc) := by rw [hV]; simp [go_sem, c2]
  have vc3 : V.cell? ⟨w.heap.size + 1, 3, none⟩ = some (.slice ma mn mc) := by rw [hV]; simp [go_sem, c3]
  have vx0 : V.cell? ⟨w.heap.size + 1 + 1, 0, none⟩ = some (.int .i64 1) := by rw [hV]; simp [go_sem, x0]
  have vx1 : V.cell? ⟨w.heap.size + 1 + 1, 1, none⟩ = some (.int .i64 r) := by rw [hV]; simp [go_sem, x1]
  have vx2 : V.cell? ⟨w.heap.size + 1 + 1, 2, none⟩ = some (.int .i64 ra) := by rw [hV]; simp [go_sem, x2]
  have vx3 : V.cell? ⟨w.heap.size + 1 + 1, 3, none⟩ = some (.int .i64 rb) := by rw [hV]; simp [go_sem, x3]
  have vx4 : V.cell? ⟨w.heap.size + 1 + 1, 4, none⟩ = some (.int .i64 k) := by rw [hV]; simp [go_sem, x4]
  have vx5 : V.cell? ⟨w.heap.size + 1 + 1, 5, none⟩ = some (.slice xa xn xc) := by rw [hV]; simp [go_sem, x5]
  have vx6 : V.cell? ⟨w.heap.size + 1 + 1, 6, none⟩ = some (.int .i64 cost) := by rw [hV]; simp [go_sem, x6]
  have vx7 : V.cell? ⟨w.heap.size + 1 + 1, 7, none⟩ = some (.int .i64 mt) := by rw [hV]; simp [go_sem, x7]
  have vx8 : V.cell? ⟨w.heap.size + 1 + 1, 8, none⟩ = some (.int .i64 ip) := by rw [hV]; simp [go_sem, x8]
  have vy0 : V.cell? ⟨w.heap.size + 1 + 1 + 1, 0, none⟩ = some (.int .i64 1) := by rw [hV]; simp [go_sem, y0]
  have vy1 : V.cell? ⟨w.heap.size + 1 + 1 + 1, 1, none⟩ = some (.int .i64 r) := by rw [hV]; simp [go_sem, y1]
  have vy2 : V.cell? ⟨w.heap.size + 1 + 1 + 1, 2, none⟩ = some (.int .i64 0) := by rw [hV]; simp [go_sem, y2]
  have vy3 : V.cell? ⟨w.heap.size + 1 + 1 + 1, 3, none⟩ = some (.int .i64 0) := by rw [hV]; simp [go_sem, y3]
  have vy4 : V.cell? ⟨w.heap.size + 1 + 1 + 1, 4, none⟩ = some (.int .i64 k) := by rw [hV]; simp [go_sem, y4]
  have vy5 : V.cell? ⟨w.heap.size + 1 + 1 + 1, 5, none⟩ = some (.slice none 0 0) := by rw [hV]; simp [go_sem, y5]
  have vy6 : V.cell? ⟨w.heap.size + 1 + 1 + 1, 6, none⟩ = some (.int .i64 cost) := by rw [hV]; simp [go_sem, y6]
  have vy7 : V.cell? ⟨w.heap.size + 1 + 1 + 1, 7, none⟩ = some (.int .i64 0) := by rw [hV]; simp [go_sem, y7]
  have vy8 : V.cell? ⟨w.heap.size + 1 + 1 + 1, 8, none⟩ = some (.int .i64 ip) := by rw [hV]; simp [go_sem, y8]
  clear hV p0 c0 c1 c2 c3 x0 x1 x2 x3 x4 x5 x6 x7 x8 y0 y1 y2 y3 y4 y5 y6 y7 y8 yf
  have p0 := vp0
  clear vp0
  have c0 := vc0
  clear vc0
  have c1 := vc1
  clear vc1
  have c2 := vc2
  clear vc2
  have c3 := vc3
  clear vc3
  have x0 := vx0
  clear vx0
  have x1 := vx1
  clear vx1
  have x2 := vx2
  clear vx2
  have x3 := vx3
  clear vx3
  have x4 := vx4
  clear vx4
  have x5 := vx5
  clear vx5
  have x6 := vx6
  clear vx6
  have x7 := vx7
  clear vx7
  have x8 := vx8
  clear vx8
  have y0 := vy0
  clear vy0
  have y1 := vy1
  clear vy1
  have y2 := vy2
  clear vy2
  have y3 := vy3
  clear vy3
  have y4 := vy4
  clear vy4
  have y5 := vy5
  clear vy5
  have y6 := vy6
  clear vy6
  have y7 := vy7
  clear vy7
  have y8 := vy8
  clear vy8
  have BB : Hid (Below V.heap.size V V) := hid (Below.refl _ _)
  go_wp2_with fail
  refine (refReg_any cf rg _ _ _ _ _ _ r _).mono ?_
  rintro e w1 ⟨rfl, b1⟩
  replace BB := hid (kt BB.out b1)
  replace p0 := kept_cell b1 p0
  replace c0 := kept_cell b1 c0
  replace c1 := kept_cell b1 c1
  replace c2 := kept_cell b1 c2
  replace c3 := kept_cell b1 c3
  replace x0 := kept_cell b1 x0
  replace x1 := kept_cell b1 x1
  replace x2 := kept_cell b1 x2
  replace x3 := kept_cell b1 x3
  replace x4 := kept_cell b1 x4
  replace x5 := kept_cell b1 x5
  replace x6 := kept_cell b1 x6
  replace x7 := kept_cell b1 x7
  replace x8 := kept_cell b1 x8
  replace y0 := kept_cell b1 y0
  replace y1 := kept_cell b1 y1
  replace y2 := kept_cell b1 y2
  replace y3 := kept_cell b1 y3
  replace y4 := kept_cell b1 y4
  replace y5 := kept_cell b1 y5
  replace y6 := kept_cell b1 y6
  replace y7 := kept_cell b1 y7
  replace y8 := kept_cell b1 y8
  clear b1
  cases h0 : regB rg r
  · have F : Hid (irB ps rg cn mn q (1, r, ra, rb, k, args, cost, mt, ip) = false) := hid (by rw [E1.out, show (regB rg r && isNum k) = false by rw [h0]; rfl]; rfl)
    clear h0
    go_wp2_with fail
    go_ret
    exact ⟨ret_bool F.out.symm, kt BV.out BB.out⟩
  go_wp2_with fail
  refine (refNumber_any k _).mono ?_
  rintro e w2 ⟨rfl, hw⟩
  rw [hw]
  clear hw w2
  cases h1 : isNum k
  · have F : Hid (irB ps rg cn mn q (1, r, ra, rb, k, args, cost, mt, ip) = false) := hid (by rw [E1.out, show (regB rg r && isNum k) = false by rw [h0, h1]; rfl]; rfl)
    clear h1
    go_wp2_with fail
    go_ret
    exact ⟨ret_bool F.out.symm, kt BV.out BB.out⟩
  have E2 : Hid (irB ps rg cn mn q (1, r, ra, rb, k, args, cost, mt, ip) = decide ((r, ra, rb, k, args, mt) = (r, 0, 0, k, [], 0))) := hid (by rw [E1.out, show (regB rg r && isNum k) = true by rw [h0, h1]; rfl]; rfl)
  clear h0 h1
  go_upto_region 53 with fail
  by_cases n0 : xn = 0
  rotate_left
  · have F : Hid (irB ps rg cn mn q (1, r, ra, rb, k, args, cost, mt, ip) = false) := hid (by rw [E2.out]; refine decide_eq_false (fun e => ?_); simp only [Prod.mk.injEq] at e; have := LX.out; rw [e.2.2.2.2.1] at this; exact n0 (by simpa using this))
    have n0' : ((0 : Int) == (xn : Int)) = false := by simp; omega
    go_wp2_with fail
    go_ret
    exact ⟨ret_bool F.out.symm, kt BV.out BB.out⟩
  have n0' : ((0 : Int) == (xn : Int)) = true := by simp; omega
  have N0 := hid n0
  clear n0
  by_cases n1 : ra = 0
  rotate_left
  · have F : Hid (irB ps rg cn mn q (1, r, ra, rb, k, args, cost, mt, ip) = false) := hid (by rw [E2.out]; refine decide_eq_false (fun e => ?_); simp only [Prod.mk.injEq] at e; exact n1 (by simpa using e.2.1))
    have n1' : (ra == 0) = false := by simp; omega
    go_wp2_with fail
    go_ret
    exact ⟨ret_bool F.out.symm, kt BV.out BB.out⟩
  have n1' : (ra == 0) = true := by simp; omega
  have N1 := hid n1
  clear n1
  by_cases n2 : rb = 0
  rotate_left
  · have F : Hid (irB ps rg cn mn q (1, r, ra, rb, k, args, cost, mt, ip) = false) := hid (by rw [E2.out]; refine decide_eq_false (fun e => ?_); simp only [Prod.mk.injEq] at e; exact n2 (by simpa using e.2.2.1))
    have n2' : (rb == 0) = false := by simp; omega
    go_wp2_with fail
    go_ret
    exact ⟨ret_bool F.out.symm, kt BV.out BB.out⟩
  have n2' : (rb == 0) = true := by simp; omega
  have N2 := hid n2
  clear n2
  by_cases n3 : mt = 0
  rotate_left
  · have F : Hid (irB ps rg cn mn q (1, r, ra, rb, k, args, cost, mt, ip) = false) := hid (by rw [E2.out]; refine decide_eq_false (fun e => ?_); simp only [Prod.mk.injEq] at e; exact n3 (by simpa using e.2.2.2.2.2))
    have n3' : (mt == 0) = false := by simp; omega
    go_wp2_with fail
    go_ret
    exact ⟨ret_bool F.out.symm, kt BV.out BB.out⟩
  have n3' : (mt == 0) = true := by simp; omega
  have N3 := hid n3
  clear n3
  have F : Hid (irB ps rg cn mn q (1, r, ra, rb, k, args, cost, mt, ip) = true) := hid (by
    rw [E2.out]
    refine decide_eq_true ?_
    have ha : args = [] := List.length_eq_zero_iff.1 (by have := LX.out; have := N0.out; omega)
    rw [ha, N1.out, N2.out, N3.out])
  go_wp2_with fail
  go_ret
  exact ⟨ret_bool F.out.symm, kt BV.out BB.out⟩

end Go.Proofs.YtfnfbebkeoilfaaGreatDoor

namespace Go.Proofs.YtfnfbebkeoilfaaGreatDoor
open Go.RowKit
set_option linter.unusedVariables false

set_option maxRecDepth 100000 in
set_option maxHeartbeats 16000000 in
theorem refIr2_any (pa : Option Addr) (pn pc : Nat) (cn cc : Nat) (ma : Option Addr) (mn mc : Nat) (ps : List Fn) (cf rg : Int) (q : Nat) (b o : Nat) (r ra rb k : Int) (xa : Option Addr) (xn xc : Nat) (args : List Int) (cost mt ip : Int) (w : World) (hp : Fns w pa pn pc ps) (hq : q < cn) (hr : cn * 88 ≤ 140737488351232) (hcc : cn ≤ cc) (hm : mn * 24 ≤ 140737488351232)
    (e0 : w.cell? ⟨b, o + q * 9, none⟩ = some (.int .i64 2)) (e1 : w.cell? ⟨b, o + q * 9 + 1, none⟩ = some (.int .i64 r)) (e2 : w.cell? ⟨b, o + q * 9 + 2, none⟩ = some (.int .i64 ra)) (e3 : w.cell? ⟨b, o + q * 9 + 3, none⟩ = some (.int .i64 rb)) (e4 : w.cell? ⟨b, o + q * 9 + 4, none⟩ = some (.int .i64 k)) (e5 : w.cell? ⟨b, o + q * 9 + 5, none⟩ = some (.slice xa xn xc)) (e6 : w.cell? ⟨b, o + q * 9 + 6, none⟩ = some (.int .i64 cost)) (e7 : w.cell? ⟨b, o + q * 9 + 7, none⟩ = some (.int .i64 mt)) (e8 : w.cell? ⟨b, o + q * 9 + 8, none⟩ = some (.int .i64 ip)) (hx : Ints w xa xn xc args) :
    Calls Tryz.prog 21 #[.agg #[.slice pa pn pc], .agg #[.int .i64 cf, .int .i64 rg, .slice (some ⟨b, o, none⟩) cn cc, .slice ma mn mc], .int .i64 (q : Int)] w fun e w' => e = .returned (.bool (irB ps rg cn mn q (2, r, ra, rb, k, args, cost, mt, ip))) ∧ Below w.heap.size w w' := by
  have EK : Hid (irB ps rg cn mn q (2, r, ra, rb, k, args, cost, mt, ip) = (headI cost ip && ((regB rg r && regB rg ra) && decide ((r, ra, rb, k, args, mt) = (r, ra, 0, 0, [], 0))))) := hid irB_k2
  have z := lt_of_cell e0
  have HP := hid hp
  have LP := hid hp.len
  have hpr := hp.room
  have LX := hid hx.len
  have hxr := hx.room
  have HX := hid hx
  clear hp hx
  go_enter Tryz.func21, Tryz.ntmps21
  go_upto_region 3 with fail
  refine wp_name ?_
  intro U hU
  have B : Hid (Below w.heap.size w U) := hid (by rw [hU]; go_grown)
  have p0 : U.cell? ⟨w.heap.size, 0, none⟩ = some (.slice pa pn pc) := by rw [hU]; simp [go_sem]
  have c0 : U.cell? ⟨w.heap.size + 1, 0, none⟩ = some (.int .i64 cf) := by rw [hU]; simp [go_sem]
  have c1 : U.cell? ⟨w.heap.size + 1, 1, none⟩ = some (.int .i64 rg) := by rw [hU]; simp [go_sem]
  have c2 : U.cell? ⟨w.heap.size + 1, 2, none⟩ = some (.slice (some ⟨b, o, none⟩) cn cc) := by rw [hU]; simp [go_sem]
  have c3 : U.cell? ⟨w.heap.size + 1, 3, none⟩ = some (.slice ma mn mc) := by rw [hU]; simp [go_sem]
  have x0 : U.cell? ⟨w.heap.size + 1 + 1, 0, none⟩ = some (.int .i64 2) := by rw [hU]; simp [go_sem]
  have x1 : U.cell? ⟨w.heap.size + 1 + 1, 1, none⟩ = some (.int .i64 r) := by rw [hU]; simp [go_sem]
  have x2 : U.cell? ⟨w.heap.size + 1 + 1, 2, none⟩ = some (.int .i64 ra) := by rw [hU]; simp [go_sem]
  have x3 : U.cell? ⟨w.heap.size + 1 + 1, 3, none⟩ = some (.int .i64 rb) := by rw [hU]; simp [go_sem]
  have x4 : U.cell? ⟨w.heap.size + 1 + 1, 4, none⟩ = some (.int .i64 k) := by rw [hU]; simp [go_sem]
  have x5 : U.cell? ⟨w.heap.size + 1 + 1, 5, none⟩ = some (.slice xa xn xc) := by rw [hU]; simp [go_sem]
  have x6 : U.cell? ⟨w.heap.size + 1 + 1, 6, none⟩ = some (.int .i64 cost) := by rw [hU]; simp [go_sem]
  have x7 : U.cell? ⟨w.heap.size + 1 + 1, 7, none⟩ = some (.int .i64 mt) := by rw [hU]; simp [go_sem]
  have x8 : U.cell? ⟨w.heap.size + 1 + 1, 8, none⟩ = some (.int .i64 ip) := by rw [hU]; simp [go_sem]
  have y0 : U.cell? ⟨w.heap.size + 1 + 1 + 1, 0, none⟩ = some (.int .i64 2) := by rw [hU]; simp [go_sem]
  have y1 : U.cell? ⟨w.heap.size + 1 + 1 + 1, 1, none⟩ = some (.int .i64 0) := by rw [hU]; simp [go_sem]
  have y2 : U.cell? ⟨w.heap.size + 1 + 1 + 1, 2, none⟩ = some (.int .i64 0) := by rw [hU]; simp [go_sem]
  have y3 : U.cell? ⟨w.heap.size + 1 + 1 + 1, 3, none⟩ = some (.int .i64 0) := by rw [hU]; simp [go_sem]
  have y4 : U.cell? ⟨w.heap.size + 1 + 1 + 1, 4, none⟩ = some (.int .i64 0) := by rw [hU]; simp [go_sem]
  have y5 : U.cell? ⟨w.heap.size + 1 + 1 + 1, 5, none⟩ = some (.slice none 0 0) := by rw [hU]; simp [go_sem]
  have y6 : U.cell? ⟨w.heap.size + 1 + 1 + 1, 6, none⟩ = some (.int .i64 cost) := by rw [hU]; simp [go_sem]
  have y7 : U.cell? ⟨w.heap.size + 1 + 1 + 1, 7, none⟩ = some (.int .i64 0) := by rw [hU]; simp [go_sem]
  have y8 : U.cell? ⟨w.heap.size + 1 + 1 + 1, 8, none⟩ = some (.int .i64 ip) := by rw [hU]; simp [go_sem]
  have yf : ∀ j, U.frozen? ⟨w.heap.size + 1 + 1 + 1, j, none⟩ = false := by intro j; rw [hU]; simp [go_sem]
  clear hU e0 e1 e2 e3 e4 e5 e6 e7 e8
  by_cases k0 : 0 ≤ cost
  rotate_left
  · have F : Hid (irB ps rg cn mn q (2, r, ra, rb, k, args, cost, mt, ip) = false) := hid (by rw [EK.out, show headI cost ip = false by unfold headI; exact decide_eq_false (by omega)]; rfl)
    have k0' : decide (0 ≤ cost) = false := by simpa using k0
    go_wp2_with fail
    go_ret
    exact ⟨ret_bool F.out.symm, by repeat (first | exact B.out | refine Below.setCell ?_ (by simp; omega) _)⟩
  by_cases k1 : cost ≤ 256
  rotate_left
  · have F : Hid (irB ps rg cn mn q (2, r, ra, rb, k, args, cost, mt, ip) = false) := hid (by rw [EK.out, show headI cost ip = false by unfold headI; exact decide_eq_false (by omega)]; rfl)
    have k1' : decide (cost ≤ 256) = false := by simpa using k1
    go_wp2_with fail
    go_ret
    exact ⟨ret_bool F.out.symm, by repeat (first | exact B.out | refine Below.setCell ?_ (by simp; omega) _)⟩
  by_cases k2 : 0 ≤ ip
  rotate_left
  · have F : Hid (irB ps rg cn mn q (2, r, ra, rb, k, args, cost, mt, ip) = false) := hid (by rw [EK.out, show headI cost ip = false by unfold headI; exact decide_eq_false (by omega)]; rfl)
    have k2' : decide (0 ≤ ip) = false := by simpa using k2
    go_wp2_with fail
    go_ret
    exact ⟨ret_bool F.out.symm, by repeat (first | exact B.out | refine Below.setCell ?_ (by simp; omega) _)⟩
  by_cases k3 : ip < 64
  rotate_left
  · have F : Hid (irB ps rg cn mn q (2, r, ra, rb, k, args, cost, mt, ip) = false) := hid (by rw [EK.out, show headI cost ip = false by unfold headI; exact decide_eq_false (by omega)]; rfl)
    have k3' : decide (ip < 64) = false := by simpa using k3
    go_wp2_with fail
    go_ret
    exact ⟨ret_bool F.out.symm, by repeat (first | exact B.out | refine Below.setCell ?_ (by simp; omega) _)⟩
  have k3' : decide (ip < 64) = true := by simpa using k3
  have hd : headI cost ip = true := by unfold headI; exact decide_eq_true (by omega)
  have E1 : Hid (irB ps rg cn mn q (2, r, ra, rb, k, args, cost, mt, ip) = ((regB rg r && regB rg ra) && decide ((r, ra, rb, k, args, mt) = (r, ra, 0, 0, [], 0)))) := hid (by rw [EK.out, hd]; rfl)
  clear hd
  go_upto_region 16 with fail
  refine wp_name ?_
  intro V hV
  have BV : Hid (Below w.heap.size w V) := hid (by rw [hV]; repeat (first | exact B.out | refine Below.setCell ?_ (by simp; omega) _))
  have vp0 : V.cell? ⟨w.heap.size, 0, none⟩ = some (.slice pa pn pc) := by rw [hV]; simp [go_sem, p0]
  have vc0 : V.cell? ⟨w.heap.size + 1, 0, none⟩ = some (.int .i64 cf) := by rw [hV]; simp [go_sem, c0]
  have vc1 : V.cell? ⟨w.heap.size + 1, 1, none⟩ = some (.int .i64 rg) := by rw [hV]; simp [go_sem, c1]
  have vc2 : V.cell? ⟨w.heap.size + 1, 2, none⟩ = some (.slice (some ⟨b, o, none⟩) cn cc) := by rw [hV]; simp [go_sem, c2]
  have vc3 : V.cell? ⟨w.heap.size + 1, 3, none⟩ = some (.slice ma mn mc) := by rw [hV]; simp [go_sem, c3]
  have vx0 : V.cell? ⟨w.heap.size + 1 + 1, 0, none⟩ = some (.int .i64 2) := by rw [hV]; simp [go_sem, x0]
  have vx1 : V.cell? ⟨w.heap.size + 1 + 1, 1, none⟩ = some (.int .i64 r) := by rw [hV]; simp [go_sem, x1]
  have vx2 : V.cell? ⟨w.heap.size + 1 + 1, 2, none⟩ = some (.int .i64 ra) := by rw [hV]; simp [go_sem, x2]
  have vx3 : V.cell? ⟨w.heap.size + 1 + 1, 3, none⟩ = some (.int .i64 rb) := by rw [hV]; simp [go_sem, x3]
  have vx4 : V.cell? ⟨w.heap.size + 1 + 1, 4, none⟩ = some (.int .i64 k) := by rw [hV]; simp [go_sem, x4]
  have vx5 : V.cell? ⟨w.heap.size + 1 + 1, 5, none⟩ = some (.slice xa xn xc) := by rw [hV]; simp [go_sem, x5]
  have vx6 : V.cell? ⟨w.heap.size + 1 + 1, 6, none⟩ = some (.int .i64 cost) := by rw [hV]; simp [go_sem, x6]
  have vx7 : V.cell? ⟨w.heap.size + 1 + 1, 7, none⟩ = some (.int .i64 mt) := by rw [hV]; simp [go_sem, x7]
  have vx8 : V.cell? ⟨w.heap.size + 1 + 1, 8, none⟩ = some (.int .i64 ip) := by rw [hV]; simp [go_sem, x8]
  have vy0 : V.cell? ⟨w.heap.size + 1 + 1 + 1, 0, none⟩ = some (.int .i64 2) := by rw [hV]; simp [go_sem, y0]
  have vy1 : V.cell? ⟨w.heap.size + 1 + 1 + 1, 1, none⟩ = some (.int .i64 r) := by rw [hV]; simp [go_sem, y1]
  have vy2 : V.cell? ⟨w.heap.size + 1 + 1 + 1, 2, none⟩ = some (.int .i64 ra) := by rw [hV]; simp [go_sem, y2]
  have vy3 : V.cell? ⟨w.heap.size + 1 + 1 + 1, 3, none⟩ = some (.int .i64 0) := by rw [hV]; simp [go_sem, y3]
  have vy4 : V.cell? ⟨w.heap.size + 1 + 1 + 1, 4, none⟩ = some (.int .i64 0) := by rw [hV]; simp [go_sem, y4]
  have vy5 : V.cell? ⟨w.heap.size + 1 + 1 + 1, 5, none⟩ = some (.slice none 0 0) := by rw [hV]; simp [go_sem, y5]
  have vy6 : V.cell? ⟨w.heap.size + 1 + 1 + 1, 6, none⟩ = some (.int .i64 cost) := by rw [hV]; simp [go_sem, y6]
  have vy7 : V.cell? ⟨w.heap.size + 1 + 1 + 1, 7, none⟩ = some (.int .i64 0) := by rw [hV]; simp [go_sem, y7]
  have vy8 : V.cell? ⟨w.heap.size + 1 + 1 + 1, 8, none⟩ = some (.int .i64 ip) := by rw [hV]; simp [go_sem, y8]
  clear hV p0 c0 c1 c2 c3 x0 x1 x2 x3 x4 x5 x6 x7 x8 y0 y1 y2 y3 y4 y5 y6 y7 y8 yf
  have p0 := vp0
  clear vp0
  have c0 := vc0
  clear vc0
  have c1 := vc1
  clear vc1
  have c2 := vc2
  clear vc2
  have c3 := vc3
  clear vc3
  have x0 := vx0
  clear vx0
  have x1 := vx1
  clear vx1
  have x2 := vx2
  clear vx2
  have x3 := vx3
  clear vx3
  have x4 := vx4
  clear vx4
  have x5 := vx5
  clear vx5
  have x6 := vx6
  clear vx6
  have x7 := vx7
  clear vx7
  have x8 := vx8
  clear vx8
  have y0 := vy0
  clear vy0
  have y1 := vy1
  clear vy1
  have y2 := vy2
  clear vy2
  have y3 := vy3
  clear vy3
  have y4 := vy4
  clear vy4
  have y5 := vy5
  clear vy5
  have y6 := vy6
  clear vy6
  have y7 := vy7
  clear vy7
  have y8 := vy8
  clear vy8
  have BB : Hid (Below V.heap.size V V) := hid (Below.refl _ _)
  go_wp2_with fail
  refine (refReg_any cf rg _ _ _ _ _ _ r _).mono ?_
  rintro e w1 ⟨rfl, b1⟩
  replace BB := hid (kt BB.out b1)
  replace p0 := kept_cell b1 p0
  replace c0 := kept_cell b1 c0
  replace c1 := kept_cell b1 c1
  replace c2 := kept_cell b1 c2
  replace c3 := kept_cell b1 c3
  replace x0 := kept_cell b1 x0
  replace x1 := kept_cell b1 x1
  replace x2 := kept_cell b1 x2
  replace x3 := kept_cell b1 x3
  replace x4 := kept_cell b1 x4
  replace x5 := kept_cell b1 x5
  replace x6 := kept_cell b1 x6
  replace x7 := kept_cell b1 x7
  replace x8 := kept_cell b1 x8
  replace y0 := kept_cell b1 y0
  replace y1 := kept_cell b1 y1
  replace y2 := kept_cell b1 y2
  replace y3 := kept_cell b1 y3
  replace y4 := kept_cell b1 y4
  replace y5 := kept_cell b1 y5
  replace y6 := kept_cell b1 y6
  replace y7 := kept_cell b1 y7
  replace y8 := kept_cell b1 y8
  clear b1
  cases h0 : regB rg r
  · have F : Hid (irB ps rg cn mn q (2, r, ra, rb, k, args, cost, mt, ip) = false) := hid (by rw [E1.out, show (regB rg r && regB rg ra) = false by rw [h0]; rfl]; rfl)
    clear h0
    go_wp2_with fail
    go_ret
    exact ⟨ret_bool F.out.symm, kt BV.out BB.out⟩
  go_wp2_with fail
  refine (refReg_any cf rg _ _ _ _ _ _ ra _).mono ?_
  rintro e w2 ⟨rfl, b1⟩
  replace BB := hid (kt BB.out b1)
  replace p0 := kept_cell b1 p0
  replace c0 := kept_cell b1 c0
  replace c1 := kept_cell b1 c1
  replace c2 := kept_cell b1 c2
  replace c3 := kept_cell b1 c3
  replace x0 := kept_cell b1 x0
  replace x1 := kept_cell b1 x1
  replace x2 := kept_cell b1 x2
  replace x3 := kept_cell b1 x3
  replace x4 := kept_cell b1 x4
  replace x5 := kept_cell b1 x5
  replace x6 := kept_cell b1 x6
  replace x7 := kept_cell b1 x7
  replace x8 := kept_cell b1 x8
  replace y0 := kept_cell b1 y0
  replace y1 := kept_cell b1 y1
  replace y2 := kept_cell b1 y2
  replace y3 := kept_cell b1 y3
  replace y4 := kept_cell b1 y4
  replace y5 := kept_cell b1 y5
  replace y6 := kept_cell b1 y6
  replace y7 := kept_cell b1 y7
  replace y8 := kept_cell b1 y8
  clear b1
  cases h1 : regB rg ra
  · have F : Hid (irB ps rg cn mn q (2, r, ra, rb, k, args, cost, mt, ip) = false) := hid (by rw [E1.out, show (regB rg r && regB rg ra) = false by rw [h0, h1]; rfl]; rfl)
    clear h1
    go_wp2_with fail
    go_ret
    exact ⟨ret_bool F.out.symm, kt BV.out BB.out⟩
  have E2 : Hid (irB ps rg cn mn q (2, r, ra, rb, k, args, cost, mt, ip) = decide ((r, ra, rb, k, args, mt) = (r, ra, 0, 0, [], 0))) := hid (by rw [E1.out, show (regB rg r && regB rg ra) = true by rw [h0, h1]; rfl]; rfl)
  clear h0 h1
  go_upto_region 53 with fail
  by_cases n0 : xn = 0
  rotate_left
  · have F : Hid (irB ps rg cn mn q (2, r, ra, rb, k, args, cost, mt, ip) = false) := hid (by rw [E2.out]; refine decide_eq_false (fun e => ?_); simp only [Prod.mk.injEq] at e; have := LX.out; rw [e.2.2.2.2.1] at this; exact n0 (by simpa using this))
    have n0' : ((0 : Int) == (xn : Int)) = false := by simp; omega
    go_wp2_with fail
    go_ret
    exact ⟨ret_bool F.out.symm, kt BV.out BB.out⟩
  have n0' : ((0 : Int) == (xn : Int)) = true := by simp; omega
  have N0 := hid n0
  clear n0
  by_cases n1 : rb = 0
  rotate_left
  · have F : Hid (irB ps rg cn mn q (2, r, ra, rb, k, args, cost, mt, ip) = false) := hid (by rw [E2.out]; refine decide_eq_false (fun e => ?_); simp only [Prod.mk.injEq] at e; exact n1 (by simpa using e.2.2.1))
    have n1' : (rb == 0) = false := by simp; omega
    go_wp2_with fail
    go_ret
    exact ⟨ret_bool F.out.symm, kt BV.out BB.out⟩
  have n1' : (rb == 0) = true := by simp; omega
  have N1 := hid n1
  clear n1
  by_cases n2 : k = 0
  rotate_left
  · have F : Hid (irB ps rg cn mn q (2, r, ra, rb, k, args, cost, mt, ip) = false) := hid (by rw [E2.out]; refine decide_eq_false (fun e => ?_); simp only [Prod.mk.injEq] at e; exact n2 (by simpa using e.2.2.2.1))
    have n2' : (k == 0) = false := by simp; omega
    go_wp2_with fail
    go_ret
    exact ⟨ret_bool F.out.symm, kt BV.out BB.out⟩
  have n2' : (k == 0) = true := by simp; omega
  have N2 := hid n2
  clear n2
  by_cases n3 : mt = 0
  rotate_left
  · have F : Hid (irB ps rg cn mn q (2, r, ra, rb, k, args, cost, mt, ip) = false) := hid (by rw [E2.out]; refine decide_eq_false (fun e => ?_); simp only [Prod.mk.injEq] at e; exact n3 (by simpa using e.2.2.2.2.2))
    have n3' : (mt == 0) = false := by simp; omega
    go_wp2_with fail
    go_ret
    exact ⟨ret_bool F.out.symm, kt BV.out BB.out⟩
  have n3' : (mt == 0) = true := by simp; omega
  have N3 := hid n3
  clear n3
  have F : Hid (irB ps rg cn mn q (2, r, ra, rb, k, args, cost, mt, ip) = true) := hid (by
    rw [E2.out]
    refine decide_eq_true ?_
    have ha : args = [] := List.length_eq_zero_iff.1 (by have := LX.out; have := N0.out; omega)
    rw [ha, N1.out, N2.out, N3.out])
  go_wp2_with fail
  go_ret
  exact ⟨ret_bool F.out.symm, kt BV.out BB.out⟩

end Go.Proofs.YtfnfbebkeoilfaaGreatDoor

namespace Go.Proofs.YtfnfbebkeoilfaaGreatDoor
open Go.RowKit
set_option linter.unusedVariables false

set_option maxRecDepth 100000 in
set_option maxHeartbeats 16000000 in
theorem refIr3_any (pa : Option Addr) (pn pc : Nat) (cn cc : Nat) (ma : Option Addr) (mn mc : Nat) (ps : List Fn) (cf rg : Int) (q : Nat) (b o : Nat) (r ra rb k : Int) (xa : Option Addr) (xn xc : Nat) (args : List Int) (cost mt ip : Int) (w : World) (hp : Fns w pa pn pc ps) (hq : q < cn) (hr : cn * 88 ≤ 140737488351232) (hcc : cn ≤ cc) (hm : mn * 24 ≤ 140737488351232)
    (e0 : w.cell? ⟨b, o + q * 9, none⟩ = some (.int .i64 3)) (e1 : w.cell? ⟨b, o + q * 9 + 1, none⟩ = some (.int .i64 r)) (e2 : w.cell? ⟨b, o + q * 9 + 2, none⟩ = some (.int .i64 ra)) (e3 : w.cell? ⟨b, o + q * 9 + 3, none⟩ = some (.int .i64 rb)) (e4 : w.cell? ⟨b, o + q * 9 + 4, none⟩ = some (.int .i64 k)) (e5 : w.cell? ⟨b, o + q * 9 + 5, none⟩ = some (.slice xa xn xc)) (e6 : w.cell? ⟨b, o + q * 9 + 6, none⟩ = some (.int .i64 cost)) (e7 : w.cell? ⟨b, o + q * 9 + 7, none⟩ = some (.int .i64 mt)) (e8 : w.cell? ⟨b, o + q * 9 + 8, none⟩ = some (.int .i64 ip)) (hx : Ints w xa xn xc args) :
    Calls Tryz.prog 21 #[.agg #[.slice pa pn pc], .agg #[.int .i64 cf, .int .i64 rg, .slice (some ⟨b, o, none⟩) cn cc, .slice ma mn mc], .int .i64 (q : Int)] w fun e w' => e = .returned (.bool (irB ps rg cn mn q (3, r, ra, rb, k, args, cost, mt, ip))) ∧ Below w.heap.size w w' := by
  have EK : Hid (irB ps rg cn mn q (3, r, ra, rb, k, args, cost, mt, ip) = (headI cost ip && ((regB rg r && (regB rg ra && (regB rg rb && decide (3 ≤ k ∧ k ≤ 9)))) && decide ((r, ra, rb, k, args, mt) = (r, ra, rb, k, [], 0))))) := hid irB_k3
  have z := lt_of_cell e0
  have HP := hid hp
  have LP := hid hp.len
  have hpr := hp.room
  have LX := hid hx.len
  have hxr := hx.room
  have HX := hid hx
  clear hp hx
  go_enter Tryz.func21, Tryz.ntmps21
  go_upto_region 3 with fail
  refine wp_name ?_
  intro U hU
  have B : Hid (Below w.heap.size w U) := hid (by rw [hU]; go_grown)
  have p0 : U.cell? ⟨w.heap.size, 0, none⟩ = some (.slice pa pn pc) := by rw [hU]; simp [go_sem]
  have c0 : U.cell? ⟨w.heap.size + 1, 0, none⟩ = some (.int .i64 cf) := by rw [hU]; simp [go_sem]
  have c1 : U.cell? ⟨w.heap.size + 1, 1, none⟩ = some (.int .i64 rg) := by rw [hU]; simp [go_sem]
  have c2 : U.cell? ⟨w.heap.size + 1, 2, none⟩ = some (.slice (some ⟨b, o, none⟩) cn cc) := by rw [hU]; simp [go_sem]
  have c3 : U.cell? ⟨w.heap.size + 1, 3, none⟩ = some (.slice ma mn mc) := by rw [hU]; simp [go_sem]
  have x0 : U.cell? ⟨w.heap.size + 1 + 1, 0, none⟩ = some (.int .i64 3) := by rw [hU]; simp [go_sem]
  have x1 : U.cell? ⟨w.heap.size + 1 + 1, 1, none⟩ = some (.int .i64 r) := by rw [hU]; simp [go_sem]
  have x2 : U.cell? ⟨w.heap.size + 1 + 1, 2, none⟩ = some (.int .i64 ra) := by rw [hU]; simp [go_sem]
  have x3 : U.cell? ⟨w.heap.size + 1 + 1, 3, none⟩ = some (.int .i64 rb) := by rw [hU]; simp [go_sem]
  have x4 : U.cell? ⟨w.heap.size + 1 + 1, 4, none⟩ = some (.int .i64 k) := by rw [hU]; simp [go_sem]
  have x5 : U.cell? ⟨w.heap.size + 1 + 1, 5, none⟩ = some (.slice xa xn xc) := by rw [hU]; simp [go_sem]
  have x6 : U.cell? ⟨w.heap.size + 1 + 1, 6, none⟩ = some (.int .i64 cost) := by rw [hU]; simp [go_sem]
  have x7 : U.cell? ⟨w.heap.size + 1 + 1, 7, none⟩ = some (.int .i64 mt) := by rw [hU]; simp [go_sem]
  have x8 : U.cell? ⟨w.heap.size + 1 + 1, 8, none⟩ = some (.int .i64 ip) := by rw [hU]; simp [go_sem]
  have y0 : U.cell? ⟨w.heap.size + 1 + 1 + 1, 0, none⟩ = some (.int .i64 3) := by rw [hU]; simp [go_sem]
  have y1 : U.cell? ⟨w.heap.size + 1 + 1 + 1, 1, none⟩ = some (.int .i64 0) := by rw [hU]; simp [go_sem]
  have y2 : U.cell? ⟨w.heap.size + 1 + 1 + 1, 2, none⟩ = some (.int .i64 0) := by rw [hU]; simp [go_sem]
  have y3 : U.cell? ⟨w.heap.size + 1 + 1 + 1, 3, none⟩ = some (.int .i64 0) := by rw [hU]; simp [go_sem]
  have y4 : U.cell? ⟨w.heap.size + 1 + 1 + 1, 4, none⟩ = some (.int .i64 0) := by rw [hU]; simp [go_sem]
  have y5 : U.cell? ⟨w.heap.size + 1 + 1 + 1, 5, none⟩ = some (.slice none 0 0) := by rw [hU]; simp [go_sem]
  have y6 : U.cell? ⟨w.heap.size + 1 + 1 + 1, 6, none⟩ = some (.int .i64 cost) := by rw [hU]; simp [go_sem]
  have y7 : U.cell? ⟨w.heap.size + 1 + 1 + 1, 7, none⟩ = some (.int .i64 0) := by rw [hU]; simp [go_sem]
  have y8 : U.cell? ⟨w.heap.size + 1 + 1 + 1, 8, none⟩ = some (.int .i64 ip) := by rw [hU]; simp [go_sem]
  have yf : ∀ j, U.frozen? ⟨w.heap.size + 1 + 1 + 1, j, none⟩ = false := by intro j; rw [hU]; simp [go_sem]
  clear hU e0 e1 e2 e3 e4 e5 e6 e7 e8
  by_cases k0 : 0 ≤ cost
  rotate_left
  · have F : Hid (irB ps rg cn mn q (3, r, ra, rb, k, args, cost, mt, ip) = false) := hid (by rw [EK.out, show headI cost ip = false by unfold headI; exact decide_eq_false (by omega)]; rfl)
    have k0' : decide (0 ≤ cost) = false := by simpa using k0
    go_wp2_with fail
    go_ret
    exact ⟨ret_bool F.out.symm, by repeat (first | exact B.out | refine Below.setCell ?_ (by simp; omega) _)⟩
  by_cases k1 : cost ≤ 256
  rotate_left
  · have F : Hid (irB ps rg cn mn q (3, r, ra, rb, k, args, cost, mt, ip) = false) := hid (by rw [EK.out, show headI cost ip = false by unfold headI; exact decide_eq_false (by omega)]; rfl)
    have k1' : decide (cost ≤ 256) = false := by simpa using k1
    go_wp2_with fail
    go_ret
    exact ⟨ret_bool F.out.symm, by repeat (first | exact B.out | refine Below.setCell ?_ (by simp; omega) _)⟩
  by_cases k2 : 0 ≤ ip
  rotate_left
  · have F : Hid (irB ps rg cn mn q (3, r, ra, rb, k, args, cost, mt, ip) = false) := hid (by rw [EK.out, show headI cost ip = false by unfold headI; exact decide_eq_false (by omega)]; rfl)
    have k2' : decide (0 ≤ ip) = false := by simpa using k2
    go_wp2_with fail
    go_ret
    exact ⟨ret_bool F.out.symm, by repeat (first | exact B.out | refine Below.setCell ?_ (by simp; omega) _)⟩
  by_cases k3 : ip < 64
  rotate_left
  · have F : Hid (irB ps rg cn mn q (3, r, ra, rb, k, args, cost, mt, ip) = false) := hid (by rw [EK.out, show headI cost ip = false by unfold headI; exact decide_eq_false (by omega)]; rfl)
    have k3' : decide (ip < 64) = false := by simpa using k3
    go_wp2_with fail
    go_ret
    exact ⟨ret_bool F.out.symm, by repeat (first | exact B.out | refine Below.setCell ?_ (by simp; omega) _)⟩
  have k3' : decide (ip < 64) = true := by simpa using k3
  have hd : headI cost ip = true := by unfold headI; exact decide_eq_true (by omega)
  have E1 : Hid (irB ps rg cn mn q (3, r, ra, rb, k, args, cost, mt, ip) = ((regB rg r && (regB rg ra && (regB rg rb && decide (3 ≤ k ∧ k ≤ 9)))) && decide ((r, ra, rb, k, args, mt) = (r, ra, rb, k, [], 0)))) := hid (by rw [EK.out, hd]; rfl)
  clear hd
  go_upto_region 22 with fail
  refine wp_name ?_
  intro V hV
  have BV : Hid (Below w.heap.size w V) := hid (by rw [hV]; repeat (first | exact B.out | refine Below.setCell ?_ (by simp; omega) _))
  have vp0 : V.cell? ⟨w.heap.size, 0, none⟩ = some (.slice pa pn pc) := by rw [hV]; simp [go_sem, p0]
  have vc0 : V.cell? ⟨w.heap.size + 1, 0, none⟩ = some (.int .i64 cf) := by rw [hV]; simp [go_sem, c0]
  have vc1 : V.cell? ⟨w.heap.size + 1, 1, none⟩ = some (.int .i64 rg) := by rw [hV]; simp [go_sem, c1]
  have vc2 : V.cell? ⟨w.heap.size + 1, 2, none⟩ = some (.slice (some ⟨b, o, none⟩) cn cc) := by rw [hV]; simp [go_sem, c2]
  have vc3 : V.cell? ⟨w.heap.size + 1, 3, none⟩ = some (.slice ma mn mc) := by rw [hV]; simp [go_sem, c3]
  have vx0 : V.cell? ⟨w.heap.size + 1 + 1, 0, none⟩ = some (.int .i64 3) := by rw [hV]; simp [go_sem, x0]
  have vx1 : V.cell? ⟨w.heap.size + 1 + 1, 1, none⟩ = some (.int .i64 r) := by rw [hV]; simp [go_sem, x1]
  have vx2 : V.cell? ⟨w.heap.size + 1 + 1, 2, none⟩ = some (.int .i64 ra) := by rw [hV]; simp [go_sem, x2]
  have vx3 : V.cell? ⟨w.heap.size + 1 + 1, 3, none⟩ = some (.int .i64 rb) := by rw [hV]; simp [go_sem, x3]
  have vx4 : V.cell? ⟨w.heap.size + 1 + 1, 4, none⟩ = some (.int .i64 k) := by rw [hV]; simp [go_sem, x4]
  have vx5 : V.cell? ⟨w.heap.size + 1 + 1, 5, none⟩ = some (.slice xa xn xc) := by rw [hV]; simp [go_sem, x5]
  have vx6 : V.cell? ⟨w.heap.size + 1 + 1, 6, none⟩ = some (.int .i64 cost) := by rw [hV]; simp [go_sem, x6]
  have vx7 : V.cell? ⟨w.heap.size + 1 + 1, 7, none⟩ = some (.int .i64 mt) := by rw [hV]; simp [go_sem, x7]
  have vx8 : V.cell? ⟨w.heap.size + 1 + 1, 8, none⟩ = some (.int .i64 ip) := by rw [hV]; simp [go_sem, x8]
  have vy0 : V.cell? ⟨w.heap.size + 1 + 1 + 1, 0, none⟩ = some (.int .i64 3) := by rw [hV]; simp [go_sem, y0]
  have vy1 : V.cell? ⟨w.heap.size + 1 + 1 + 1, 1, none⟩ = some (.int .i64 r) := by rw [hV]; simp [go_sem, y1]
  have vy2 : V.cell? ⟨w.heap.size + 1 + 1 + 1, 2, none⟩ = some (.int .i64 ra) := by rw [hV]; simp [go_sem, y2]
  have vy3 : V.cell? ⟨w.heap.size + 1 + 1 + 1, 3, none⟩ = some (.int .i64 rb) := by rw [hV]; simp [go_sem, y3]
  have vy4 : V.cell? ⟨w.heap.size + 1 + 1 + 1, 4, none⟩ = some (.int .i64 k) := by rw [hV]; simp [go_sem, y4]
  have vy5 : V.cell? ⟨w.heap.size + 1 + 1 + 1, 5, none⟩ = some (.slice none 0 0) := by rw [hV]; simp [go_sem, y5]
  have vy6 : V.cell? ⟨w.heap.size + 1 + 1 + 1, 6, none⟩ = some (.int .i64 cost) := by rw [hV]; simp [go_sem, y6]
  have vy7 : V.cell? ⟨w.heap.size + 1 + 1 + 1, 7, none⟩ = some (.int .i64 0) := by rw [hV]; simp [go_sem, y7]
  have vy8 : V.cell? ⟨w.heap.size + 1 + 1 + 1, 8, none⟩ = some (.int .i64 ip) := by rw [hV]; simp [go_sem, y8]
  clear hV p0 c0 c1 c2 c3 x0 x1 x2 x3 x4 x5 x6 x7 x8 y0 y1 y2 y3 y4 y5 y6 y7 y8 yf
  have p0 := vp0
  clear vp0
  have c0 := vc0
  clear vc0
  have c1 := vc1
  clear vc1
  have c2 := vc2
  clear vc2
  have c3 := vc3
  clear vc3
  have x0 := vx0
  clear vx0
  have x1 := vx1
  clear vx1
  have x2 := vx2
  clear vx2
  have x3 := vx3
  clear vx3
  have x4 := vx4
  clear vx4
  have x5 := vx5
  clear vx5
  have x6 := vx6
  clear vx6
  have x7 := vx7
  clear vx7
  have x8 := vx8
  clear vx8
  have y0 := vy0
  clear vy0
  have y1 := vy1
  clear vy1
  have y2 := vy2
  clear vy2
  have y3 := vy3
  clear vy3
  have y4 := vy4
  clear vy4
  have y5 := vy5
  clear vy5
  have y6 := vy6
  clear vy6
  have y7 := vy7
  clear vy7
  have y8 := vy8
  clear vy8
  have BB : Hid (Below V.heap.size V V) := hid (Below.refl _ _)
  go_wp2_with fail
  refine (refReg_any cf rg _ _ _ _ _ _ r _).mono ?_
  rintro e w1 ⟨rfl, b1⟩
  replace BB := hid (kt BB.out b1)
  replace p0 := kept_cell b1 p0
  replace c0 := kept_cell b1 c0
  replace c1 := kept_cell b1 c1
  replace c2 := kept_cell b1 c2
  replace c3 := kept_cell b1 c3
  replace x0 := kept_cell b1 x0
  replace x1 := kept_cell b1 x1
  replace x2 := kept_cell b1 x2
  replace x3 := kept_cell b1 x3
  replace x4 := kept_cell b1 x4
  replace x5 := kept_cell b1 x5
  replace x6 := kept_cell b1 x6
  replace x7 := kept_cell b1 x7
  replace x8 := kept_cell b1 x8
  replace y0 := kept_cell b1 y0
  replace y1 := kept_cell b1 y1
  replace y2 := kept_cell b1 y2
  replace y3 := kept_cell b1 y3
  replace y4 := kept_cell b1 y4
  replace y5 := kept_cell b1 y5
  replace y6 := kept_cell b1 y6
  replace y7 := kept_cell b1 y7
  replace y8 := kept_cell b1 y8
  clear b1
  cases h0 : regB rg r
  · have F : Hid (irB ps rg cn mn q (3, r, ra, rb, k, args, cost, mt, ip) = false) := hid (by rw [E1.out, show (regB rg r && (regB rg ra && (regB rg rb && decide (3 ≤ k ∧ k ≤ 9)))) = false by rw [h0]; rfl]; rfl)
    clear h0
    go_wp2_with fail
    go_ret
    exact ⟨ret_bool F.out.symm, kt BV.out BB.out⟩
  go_wp2_with fail
  refine (refReg_any cf rg _ _ _ _ _ _ ra _).mono ?_
  rintro e w2 ⟨rfl, b1⟩
  replace BB := hid (kt BB.out b1)
  replace p0 := kept_cell b1 p0
  replace c0 := kept_cell b1 c0
  replace c1 := kept_cell b1 c1
  replace c2 := kept_cell b1 c2
  replace c3 := kept_cell b1 c3
  replace x0 := kept_cell b1 x0
  replace x1 := kept_cell b1 x1
  replace x2 := kept_cell b1 x2
  replace x3 := kept_cell b1 x3
  replace x4 := kept_cell b1 x4
  replace x5 := kept_cell b1 x5
  replace x6 := kept_cell b1 x6
  replace x7 := kept_cell b1 x7
  replace x8 := kept_cell b1 x8
  replace y0 := kept_cell b1 y0
  replace y1 := kept_cell b1 y1
  replace y2 := kept_cell b1 y2
  replace y3 := kept_cell b1 y3
  replace y4 := kept_cell b1 y4
  replace y5 := kept_cell b1 y5
  replace y6 := kept_cell b1 y6
  replace y7 := kept_cell b1 y7
  replace y8 := kept_cell b1 y8
  clear b1
  cases h1 : regB rg ra
  · have F : Hid (irB ps rg cn mn q (3, r, ra, rb, k, args, cost, mt, ip) = false) := hid (by rw [E1.out, show (regB rg r && (regB rg ra && (regB rg rb && decide (3 ≤ k ∧ k ≤ 9)))) = false by rw [h0, h1]; rfl]; rfl)
    clear h1
    go_wp2_with fail
    go_ret
    exact ⟨ret_bool F.out.symm, kt BV.out BB.out⟩
  go_wp2_with fail
  refine (refReg_any cf rg _ _ _ _ _ _ rb _).mono ?_
  rintro e w3 ⟨rfl, b1⟩
  replace BB := hid (kt BB.out b1)
  replace p0 := kept_cell b1 p0
  replace c0 := kept_cell b1 c0
  replace c1 := kept_cell b1 c1
  replace c2 := kept_cell b1 c2
  replace c3 := kept_cell b1 c3
  replace x0 := kept_cell b1 x0
  replace x1 := kept_cell b1 x1
  replace x2 := kept_cell b1 x2
  replace x3 := kept_cell b1 x3
  replace x4 := kept_cell b1 x4
  replace x5 := kept_cell b1 x5
  replace x6 := kept_cell b1 x6
  replace x7 := kept_cell b1 x7
  replace x8 := kept_cell b1 x8
  replace y0 := kept_cell b1 y0
  replace y1 := kept_cell b1 y1
  replace y2 := kept_cell b1 y2
  replace y3 := kept_cell b1 y3
  replace y4 := kept_cell b1 y4
  replace y5 := kept_cell b1 y5
  replace y6 := kept_cell b1 y6
  replace y7 := kept_cell b1 y7
  replace y8 := kept_cell b1 y8
  clear b1
  cases h2 : regB rg rb
  · have F : Hid (irB ps rg cn mn q (3, r, ra, rb, k, args, cost, mt, ip) = false) := hid (by rw [E1.out, show (regB rg r && (regB rg ra && (regB rg rb && decide (3 ≤ k ∧ k ≤ 9)))) = false by rw [h0, h1, h2]; rfl]; rfl)
    clear h2
    go_wp2_with fail
    go_ret
    exact ⟨ret_bool F.out.symm, kt BV.out BB.out⟩
  by_cases d30 : 3 ≤ k
  rotate_left
  · have g30 : decide (3 ≤ k) = false := by simp; omega
    have F : Hid (irB ps rg cn mn q (3, r, ra, rb, k, args, cost, mt, ip) = false) := hid (by rw [E1.out, show (regB rg r && (regB rg ra && (regB rg rb && decide (3 ≤ k ∧ k ≤ 9)))) = false by rw [h0, h1, h2, (show decide (3 ≤ k ∧ k ≤ 9) = false by first | exact decide_eq_false (by omega) | (unfold placeOk; exact decide_eq_false (by omega)) | (unfold inB; exact decide_eq_false (by omega)))]; rfl]; rfl)
    go_wp2_with fail
    go_ret
    exact ⟨ret_bool F.out.symm, kt BV.out BB.out⟩
  have g30 : decide (3 ≤ k) = true := by simp; omega
  by_cases d31 : k ≤ 9
  rotate_left
  · have g31 : decide (k ≤ 9) = false := by simp; omega
    have F : Hid (irB ps rg cn mn q (3, r, ra, rb, k, args, cost, mt, ip) = false) := hid (by rw [E1.out, show (regB rg r && (regB rg ra && (regB rg rb && decide (3 ≤ k ∧ k ≤ 9)))) = false by rw [h0, h1, h2, (show decide (3 ≤ k ∧ k ≤ 9) = false by first | exact decide_eq_false (by omega) | (unfold placeOk; exact decide_eq_false (by omega)) | (unfold inB; exact decide_eq_false (by omega)))]; rfl]; rfl)
    go_wp2_with fail
    go_ret
    exact ⟨ret_bool F.out.symm, kt BV.out BB.out⟩
  have g31 : decide (k ≤ 9) = true := by simp; omega
  have h3 : decide (3 ≤ k ∧ k ≤ 9) = true := by first | exact decide_eq_true (by omega) | (unfold placeOk; exact decide_eq_true (by omega)) | (unfold inB; exact decide_eq_true (by omega))
  have E2 : Hid (irB ps rg cn mn q (3, r, ra, rb, k, args, cost, mt, ip) = decide ((r, ra, rb, k, args, mt) = (r, ra, rb, k, [], 0))) := hid (by rw [E1.out, show (regB rg r && (regB rg ra && (regB rg rb && decide (3 ≤ k ∧ k ≤ 9)))) = true by rw [h0, h1, h2, h3]; rfl]; rfl)
  clear h0 h1 h2 h3
  go_upto_region 53 with fail
  by_cases n0 : xn = 0
  rotate_left
  · have F : Hid (irB ps rg cn mn q (3, r, ra, rb, k, args, cost, mt, ip) = false) := hid (by rw [E2.out]; refine decide_eq_false (fun e => ?_); simp only [Prod.mk.injEq] at e; have := LX.out; rw [e.2.2.2.2.1] at this; exact n0 (by simpa using this))
    have n0' : ((0 : Int) == (xn : Int)) = false := by simp; omega
    go_wp2_with fail
    go_ret
    exact ⟨ret_bool F.out.symm, kt BV.out BB.out⟩
  have n0' : ((0 : Int) == (xn : Int)) = true := by simp; omega
  have N0 := hid n0
  clear n0
  by_cases n1 : mt = 0
  rotate_left
  · have F : Hid (irB ps rg cn mn q (3, r, ra, rb, k, args, cost, mt, ip) = false) := hid (by rw [E2.out]; refine decide_eq_false (fun e => ?_); simp only [Prod.mk.injEq] at e; exact n1 (by simpa using e.2.2.2.2.2))
    have n1' : (mt == 0) = false := by simp; omega
    go_wp2_with fail
    go_ret
    exact ⟨ret_bool F.out.symm, kt BV.out BB.out⟩
  have n1' : (mt == 0) = true := by simp; omega
  have N1 := hid n1
  clear n1
  have F : Hid (irB ps rg cn mn q (3, r, ra, rb, k, args, cost, mt, ip) = true) := hid (by
    rw [E2.out]
    refine decide_eq_true ?_
    have ha : args = [] := List.length_eq_zero_iff.1 (by have := LX.out; have := N0.out; omega)
    rw [ha, N1.out])
  go_wp2_with fail
  go_ret
  exact ⟨ret_bool F.out.symm, kt BV.out BB.out⟩

end Go.Proofs.YtfnfbebkeoilfaaGreatDoor

namespace Go.Proofs.YtfnfbebkeoilfaaGreatDoor
open Go.RowKit
set_option linter.unusedVariables false

set_option maxRecDepth 100000 in
set_option maxHeartbeats 16000000 in
theorem refIr4_any (pa : Option Addr) (pn pc : Nat) (cn cc : Nat) (ma : Option Addr) (mn mc : Nat) (ps : List Fn) (cf rg : Int) (q : Nat) (b o : Nat) (r ra rb k : Int) (xa : Option Addr) (xn xc : Nat) (args : List Int) (cost mt ip : Int) (w : World) (hp : Fns w pa pn pc ps) (hq : q < cn) (hr : cn * 88 ≤ 140737488351232) (hcc : cn ≤ cc) (hm : mn * 24 ≤ 140737488351232)
    (e0 : w.cell? ⟨b, o + q * 9, none⟩ = some (.int .i64 4)) (e1 : w.cell? ⟨b, o + q * 9 + 1, none⟩ = some (.int .i64 r)) (e2 : w.cell? ⟨b, o + q * 9 + 2, none⟩ = some (.int .i64 ra)) (e3 : w.cell? ⟨b, o + q * 9 + 3, none⟩ = some (.int .i64 rb)) (e4 : w.cell? ⟨b, o + q * 9 + 4, none⟩ = some (.int .i64 k)) (e5 : w.cell? ⟨b, o + q * 9 + 5, none⟩ = some (.slice xa xn xc)) (e6 : w.cell? ⟨b, o + q * 9 + 6, none⟩ = some (.int .i64 cost)) (e7 : w.cell? ⟨b, o + q * 9 + 7, none⟩ = some (.int .i64 mt)) (e8 : w.cell? ⟨b, o + q * 9 + 8, none⟩ = some (.int .i64 ip)) (hx : Ints w xa xn xc args) :
    Calls Tryz.prog 21 #[.agg #[.slice pa pn pc], .agg #[.int .i64 cf, .int .i64 rg, .slice (some ⟨b, o, none⟩) cn cc, .slice ma mn mc], .int .i64 (q : Int)] w fun e w' => e = .returned (.bool (irB ps rg cn mn q (4, r, ra, rb, k, args, cost, mt, ip))) ∧ Below w.heap.size w w' := by
  have EK : Hid (irB ps rg cn mn q (4, r, ra, rb, k, args, cost, mt, ip) = (headI cost ip && (placeOk cn q k cost && decide ((r, ra, rb, k, args, mt) = (0, 0, 0, k, [], 0))))) := hid irB_k4
  have z := lt_of_cell e0
  have HP := hid hp
  have LP := hid hp.len
  have hpr := hp.room
  have LX := hid hx.len
  have hxr := hx.room
  have HX := hid hx
  clear hp hx
  go_enter Tryz.func21, Tryz.ntmps21
  go_upto_region 3 with fail
  refine wp_name ?_
  intro U hU
  have B : Hid (Below w.heap.size w U) := hid (by rw [hU]; go_grown)
  have p0 : U.cell? ⟨w.heap.size, 0, none⟩ = some (.slice pa pn pc) := by rw [hU]; simp [go_sem]
  have c0 : U.cell? ⟨w.heap.size + 1, 0, none⟩ = some (.int .i64 cf) := by rw [hU]; simp [go_sem]
  have c1 : U.cell? ⟨w.heap.size + 1, 1, none⟩ = some (.int .i64 rg) := by rw [hU]; simp [go_sem]
  have c2 : U.cell? ⟨w.heap.size + 1, 2, none⟩ = some (.slice (some ⟨b, o, none⟩) cn cc) := by rw [hU]; simp [go_sem]
  have c3 : U.cell? ⟨w.heap.size + 1, 3, none⟩ = some (.slice ma mn mc) := by rw [hU]; simp [go_sem]
  have x0 : U.cell? ⟨w.heap.size + 1 + 1, 0, none⟩ = some (.int .i64 4) := by rw [hU]; simp [go_sem]
  have x1 : U.cell? ⟨w.heap.size + 1 + 1, 1, none⟩ = some (.int .i64 r) := by rw [hU]; simp [go_sem]
  have x2 : U.cell? ⟨w.heap.size + 1 + 1, 2, none⟩ = some (.int .i64 ra) := by rw [hU]; simp [go_sem]
  have x3 : U.cell? ⟨w.heap.size + 1 + 1, 3, none⟩ = some (.int .i64 rb) := by rw [hU]; simp [go_sem]
  have x4 : U.cell? ⟨w.heap.size + 1 + 1, 4, none⟩ = some (.int .i64 k) := by rw [hU]; simp [go_sem]
  have x5 : U.cell? ⟨w.heap.size + 1 + 1, 5, none⟩ = some (.slice xa xn xc) := by rw [hU]; simp [go_sem]
  have x6 : U.cell? ⟨w.heap.size + 1 + 1, 6, none⟩ = some (.int .i64 cost) := by rw [hU]; simp [go_sem]
  have x7 : U.cell? ⟨w.heap.size + 1 + 1, 7, none⟩ = some (.int .i64 mt) := by rw [hU]; simp [go_sem]
  have x8 : U.cell? ⟨w.heap.size + 1 + 1, 8, none⟩ = some (.int .i64 ip) := by rw [hU]; simp [go_sem]
  have y0 : U.cell? ⟨w.heap.size + 1 + 1 + 1, 0, none⟩ = some (.int .i64 4) := by rw [hU]; simp [go_sem]
  have y1 : U.cell? ⟨w.heap.size + 1 + 1 + 1, 1, none⟩ = some (.int .i64 0) := by rw [hU]; simp [go_sem]
  have y2 : U.cell? ⟨w.heap.size + 1 + 1 + 1, 2, none⟩ = some (.int .i64 0) := by rw [hU]; simp [go_sem]
  have y3 : U.cell? ⟨w.heap.size + 1 + 1 + 1, 3, none⟩ = some (.int .i64 0) := by rw [hU]; simp [go_sem]
  have y4 : U.cell? ⟨w.heap.size + 1 + 1 + 1, 4, none⟩ = some (.int .i64 0) := by rw [hU]; simp [go_sem]
  have y5 : U.cell? ⟨w.heap.size + 1 + 1 + 1, 5, none⟩ = some (.slice none 0 0) := by rw [hU]; simp [go_sem]
  have y6 : U.cell? ⟨w.heap.size + 1 + 1 + 1, 6, none⟩ = some (.int .i64 cost) := by rw [hU]; simp [go_sem]
  have y7 : U.cell? ⟨w.heap.size + 1 + 1 + 1, 7, none⟩ = some (.int .i64 0) := by rw [hU]; simp [go_sem]
  have y8 : U.cell? ⟨w.heap.size + 1 + 1 + 1, 8, none⟩ = some (.int .i64 ip) := by rw [hU]; simp [go_sem]
  have yf : ∀ j, U.frozen? ⟨w.heap.size + 1 + 1 + 1, j, none⟩ = false := by intro j; rw [hU]; simp [go_sem]
  clear hU e0 e1 e2 e3 e4 e5 e6 e7 e8
  by_cases k0 : 0 ≤ cost
  rotate_left
  · have F : Hid (irB ps rg cn mn q (4, r, ra, rb, k, args, cost, mt, ip) = false) := hid (by rw [EK.out, show headI cost ip = false by unfold headI; exact decide_eq_false (by omega)]; rfl)
    have k0' : decide (0 ≤ cost) = false := by simpa using k0
    go_wp2_with fail
    go_ret
    exact ⟨ret_bool F.out.symm, by repeat (first | exact B.out | refine Below.setCell ?_ (by simp; omega) _)⟩
  by_cases k1 : cost ≤ 256
  rotate_left
  · have F : Hid (irB ps rg cn mn q (4, r, ra, rb, k, args, cost, mt, ip) = false) := hid (by rw [EK.out, show headI cost ip = false by unfold headI; exact decide_eq_false (by omega)]; rfl)
    have k1' : decide (cost ≤ 256) = false := by simpa using k1
    go_wp2_with fail
    go_ret
    exact ⟨ret_bool F.out.symm, by repeat (first | exact B.out | refine Below.setCell ?_ (by simp; omega) _)⟩
  by_cases k2 : 0 ≤ ip
  rotate_left
  · have F : Hid (irB ps rg cn mn q (4, r, ra, rb, k, args, cost, mt, ip) = false) := hid (by rw [EK.out, show headI cost ip = false by unfold headI; exact decide_eq_false (by omega)]; rfl)
    have k2' : decide (0 ≤ ip) = false := by simpa using k2
    go_wp2_with fail
    go_ret
    exact ⟨ret_bool F.out.symm, by repeat (first | exact B.out | refine Below.setCell ?_ (by simp; omega) _)⟩
  by_cases k3 : ip < 64
  rotate_left
  · have F : Hid (irB ps rg cn mn q (4, r, ra, rb, k, args, cost, mt, ip) = false) := hid (by rw [EK.out, show headI cost ip = false by unfold headI; exact decide_eq_false (by omega)]; rfl)
    have k3' : decide (ip < 64) = false := by simpa using k3
    go_wp2_with fail
    go_ret
    exact ⟨ret_bool F.out.symm, by repeat (first | exact B.out | refine Below.setCell ?_ (by simp; omega) _)⟩
  have k3' : decide (ip < 64) = true := by simpa using k3
  have hd : headI cost ip = true := by unfold headI; exact decide_eq_true (by omega)
  have E1 : Hid (irB ps rg cn mn q (4, r, ra, rb, k, args, cost, mt, ip) = (placeOk cn q k cost && decide ((r, ra, rb, k, args, mt) = (0, 0, 0, k, [], 0)))) := hid (by rw [EK.out, hd]; rfl)
  clear hd
  go_upto_region 25 with fail
  refine wp_name ?_
  intro V hV
  have BV : Hid (Below w.heap.size w V) := hid (by rw [hV]; repeat (first | exact B.out | refine Below.setCell ?_ (by simp; omega) _))
  have vp0 : V.cell? ⟨w.heap.size, 0, none⟩ = some (.slice pa pn pc) := by rw [hV]; simp [go_sem, p0]
  have vc0 : V.cell? ⟨w.heap.size + 1, 0, none⟩ = some (.int .i64 cf) := by rw [hV]; simp [go_sem, c0]
  have vc1 : V.cell? ⟨w.heap.size + 1, 1, none⟩ = some (.int .i64 rg) := by rw [hV]; simp [go_sem, c1]
  have vc2 : V.cell? ⟨w.heap.size + 1, 2, none⟩ = some (.slice (some ⟨b, o, none⟩) cn cc) := by rw [hV]; simp [go_sem, c2]
  have vc3 : V.cell? ⟨w.heap.size + 1, 3, none⟩ = some (.slice ma mn mc) := by rw [hV]; simp [go_sem, c3]
  have vx0 : V.cell? ⟨w.heap.size + 1 + 1, 0, none⟩ = some (.int .i64 4) := by rw [hV]; simp [go_sem, x0]
  have vx1 : V.cell? ⟨w.heap.size + 1 + 1, 1, none⟩ = some (.int .i64 r) := by rw [hV]; simp [go_sem, x1]
  have vx2 : V.cell? ⟨w.heap.size + 1 + 1, 2, none⟩ = some (.int .i64 ra) := by rw [hV]; simp [go_sem, x2]
  have vx3 : V.cell? ⟨w.heap.size + 1 + 1, 3, none⟩ = some (.int .i64 rb) := by rw [hV]; simp [go_sem, x3]
  have vx4 : V.cell? ⟨w.heap.size + 1 + 1, 4, none⟩ = some (.int .i64 k) := by rw [hV]; simp [go_sem, x4]
  have vx5 : V.cell? ⟨w.heap.size + 1 + 1, 5, none⟩ = some (.slice xa xn xc) := by rw [hV]; simp [go_sem, x5]
  have vx6 : V.cell? ⟨w.heap.size + 1 + 1, 6, none⟩ = some (.int .i64 cost) := by rw [hV]; simp [go_sem, x6]
  have vx7 : V.cell? ⟨w.heap.size + 1 + 1, 7, none⟩ = some (.int .i64 mt) := by rw [hV]; simp [go_sem, x7]
  have vx8 : V.cell? ⟨w.heap.size + 1 + 1, 8, none⟩ = some (.int .i64 ip) := by rw [hV]; simp [go_sem, x8]
  have vy0 : V.cell? ⟨w.heap.size + 1 + 1 + 1, 0, none⟩ = some (.int .i64 4) := by rw [hV]; simp [go_sem, y0]
  have vy1 : V.cell? ⟨w.heap.size + 1 + 1 + 1, 1, none⟩ = some (.int .i64 0) := by rw [hV]; simp [go_sem, y1]
  have vy2 : V.cell? ⟨w.heap.size + 1 + 1 + 1, 2, none⟩ = some (.int .i64 0) := by rw [hV]; simp [go_sem, y2]
  have vy3 : V.cell? ⟨w.heap.size + 1 + 1 + 1, 3, none⟩ = some (.int .i64 0) := by rw [hV]; simp [go_sem, y3]
  have vy4 : V.cell? ⟨w.heap.size + 1 + 1 + 1, 4, none⟩ = some (.int .i64 k) := by rw [hV]; simp [go_sem, y4]
  have vy5 : V.cell? ⟨w.heap.size + 1 + 1 + 1, 5, none⟩ = some (.slice none 0 0) := by rw [hV]; simp [go_sem, y5]
  have vy6 : V.cell? ⟨w.heap.size + 1 + 1 + 1, 6, none⟩ = some (.int .i64 cost) := by rw [hV]; simp [go_sem, y6]
  have vy7 : V.cell? ⟨w.heap.size + 1 + 1 + 1, 7, none⟩ = some (.int .i64 0) := by rw [hV]; simp [go_sem, y7]
  have vy8 : V.cell? ⟨w.heap.size + 1 + 1 + 1, 8, none⟩ = some (.int .i64 ip) := by rw [hV]; simp [go_sem, y8]
  clear hV p0 c0 c1 c2 c3 x0 x1 x2 x3 x4 x5 x6 x7 x8 y0 y1 y2 y3 y4 y5 y6 y7 y8 yf
  have p0 := vp0
  clear vp0
  have c0 := vc0
  clear vc0
  have c1 := vc1
  clear vc1
  have c2 := vc2
  clear vc2
  have c3 := vc3
  clear vc3
  have x0 := vx0
  clear vx0
  have x1 := vx1
  clear vx1
  have x2 := vx2
  clear vx2
  have x3 := vx3
  clear vx3
  have x4 := vx4
  clear vx4
  have x5 := vx5
  clear vx5
  have x6 := vx6
  clear vx6
  have x7 := vx7
  clear vx7
  have x8 := vx8
  clear vx8
  have y0 := vy0
  clear vy0
  have y1 := vy1
  clear vy1
  have y2 := vy2
  clear vy2
  have y3 := vy3
  clear vy3
  have y4 := vy4
  clear vy4
  have y5 := vy5
  clear vy5
  have y6 := vy6
  clear vy6
  have y7 := vy7
  clear vy7
  have y8 := vy8
  clear vy8
  have BB : Hid (Below V.heap.size V V) := hid (Below.refl _ _)
  by_cases d00 : 0 ≤ k
  rotate_left
  · have g00 : decide (0 ≤ k) = false := by simp; omega
    have F : Hid (irB ps rg cn mn q (4, r, ra, rb, k, args, cost, mt, ip) = false) := hid (by rw [E1.out, show placeOk cn q k cost = false by exact (show placeOk cn q k cost = false by first | exact decide_eq_false (by omega) | (unfold placeOk; exact decide_eq_false (by omega)) | (unfold inB; exact decide_eq_false (by omega)))]; rfl)
    go_wp2_with fail
    go_ret
    exact ⟨ret_bool F.out.symm, kt BV.out BB.out⟩
  have g00 : decide (0 ≤ k) = true := by simp; omega
  by_cases d01 : k < (cn : Int)
  rotate_left
  · have g01 : decide (k < (cn : Int)) = false := by simp; omega
    have F : Hid (irB ps rg cn mn q (4, r, ra, rb, k, args, cost, mt, ip) = false) := hid (by rw [E1.out, show placeOk cn q k cost = false by exact (show placeOk cn q k cost = false by first | exact decide_eq_false (by omega) | (unfold placeOk; exact decide_eq_false (by omega)) | (unfold inB; exact decide_eq_false (by omega)))]; rfl)
    go_wp2_with fail
    go_ret
    exact ⟨ret_bool F.out.symm, kt BV.out BB.out⟩
  have g01 : decide (k < (cn : Int)) = true := by simp; omega
  by_cases d02 : (q : Int) < k
  · have g02 : decide ((q : Int) < k) = true := by simp; omega
    have h0 : placeOk cn q k cost = true := by first | exact decide_eq_true (by omega) | (unfold placeOk; exact decide_eq_true (by omega)) | (unfold inB; exact decide_eq_true (by omega))
    have E2 : Hid (irB ps rg cn mn q (4, r, ra, rb, k, args, cost, mt, ip) = decide ((r, ra, rb, k, args, mt) = (0, 0, 0, k, [], 0))) := hid (by rw [E1.out, show placeOk cn q k cost = true by exact h0]; rfl)
    clear h0
    go_upto_region 53 with fail
    by_cases n0 : xn = 0
    rotate_left
    · have F : Hid (irB ps rg cn mn q (4, r, ra, rb, k, args, cost, mt, ip) = false) := hid (by rw [E2.out]; refine decide_eq_false (fun e => ?_); simp only [Prod.mk.injEq] at e; have := LX.out; rw [e.2.2.2.2.1] at this; exact n0 (by simpa using this))
      have n0' : ((0 : Int) == (xn : Int)) = false := by simp; omega
      go_wp2_with fail
      go_ret
      exact ⟨ret_bool F.out.symm, kt BV.out BB.out⟩
    have n0' : ((0 : Int) == (xn : Int)) = true := by simp; omega
    have N0 := hid n0
    clear n0
    by_cases n1 : r = 0
    rotate_left
    · have F : Hid (irB ps rg cn mn q (4, r, ra, rb, k, args, cost, mt, ip) = false) := hid (by rw [E2.out]; refine decide_eq_false (fun e => ?_); simp only [Prod.mk.injEq] at e; exact n1 (by simpa using e.1))
      have n1' : (r == 0) = false := by simp; omega
      go_wp2_with fail
      go_ret
      exact ⟨ret_bool F.out.symm, kt BV.out BB.out⟩
    have n1' : (r == 0) = true := by simp; omega
    have N1 := hid n1
    clear n1
    by_cases n2 : ra = 0
    rotate_left
    · have F : Hid (irB ps rg cn mn q (4, r, ra, rb, k, args, cost, mt, ip) = false) := hid (by rw [E2.out]; refine decide_eq_false (fun e => ?_); simp only [Prod.mk.injEq] at e; exact n2 (by simpa using e.2.1))
      have n2' : (ra == 0) = false := by simp; omega
      go_wp2_with fail
      go_ret
      exact ⟨ret_bool F.out.symm, kt BV.out BB.out⟩
    have n2' : (ra == 0) = true := by simp; omega
    have N2 := hid n2
    clear n2
    by_cases n3 : rb = 0
    rotate_left
    · have F : Hid (irB ps rg cn mn q (4, r, ra, rb, k, args, cost, mt, ip) = false) := hid (by rw [E2.out]; refine decide_eq_false (fun e => ?_); simp only [Prod.mk.injEq] at e; exact n3 (by simpa using e.2.2.1))
      have n3' : (rb == 0) = false := by simp; omega
      go_wp2_with fail
      go_ret
      exact ⟨ret_bool F.out.symm, kt BV.out BB.out⟩
    have n3' : (rb == 0) = true := by simp; omega
    have N3 := hid n3
    clear n3
    by_cases n4 : mt = 0
    rotate_left
    · have F : Hid (irB ps rg cn mn q (4, r, ra, rb, k, args, cost, mt, ip) = false) := hid (by rw [E2.out]; refine decide_eq_false (fun e => ?_); simp only [Prod.mk.injEq] at e; exact n4 (by simpa using e.2.2.2.2.2))
      have n4' : (mt == 0) = false := by simp; omega
      go_wp2_with fail
      go_ret
      exact ⟨ret_bool F.out.symm, kt BV.out BB.out⟩
    have n4' : (mt == 0) = true := by simp; omega
    have N4 := hid n4
    clear n4
    have F : Hid (irB ps rg cn mn q (4, r, ra, rb, k, args, cost, mt, ip) = true) := hid (by
      rw [E2.out]
      refine decide_eq_true ?_
      have ha : args = [] := List.length_eq_zero_iff.1 (by have := LX.out; have := N0.out; omega)
      rw [ha, N1.out, N2.out, N3.out, N4.out])
    go_wp2_with fail
    go_ret
    exact ⟨ret_bool F.out.symm, kt BV.out BB.out⟩
  have g02 : decide ((q : Int) < k) = false := by simp; omega
  by_cases f02 : 0 < cost
  rotate_left
  · have gg02 : decide (0 < cost) = false := by simp; omega
    have F : Hid (irB ps rg cn mn q (4, r, ra, rb, k, args, cost, mt, ip) = false) := hid (by rw [E1.out, show placeOk cn q k cost = false by exact (show placeOk cn q k cost = false by first | exact decide_eq_false (by omega) | (unfold placeOk; exact decide_eq_false (by omega)) | (unfold inB; exact decide_eq_false (by omega)))]; rfl)
    go_wp2_with fail
    go_ret
    exact ⟨ret_bool F.out.symm, kt BV.out BB.out⟩
  have gg02 : decide (0 < cost) = true := by simp; omega
  have h0 : placeOk cn q k cost = true := by first | exact decide_eq_true (by omega) | (unfold placeOk; exact decide_eq_true (by omega)) | (unfold inB; exact decide_eq_true (by omega))
  have E2 : Hid (irB ps rg cn mn q (4, r, ra, rb, k, args, cost, mt, ip) = decide ((r, ra, rb, k, args, mt) = (0, 0, 0, k, [], 0))) := hid (by rw [E1.out, show placeOk cn q k cost = true by exact h0]; rfl)
  clear h0
  go_upto_region 53 with fail
  by_cases n0 : xn = 0
  rotate_left
  · have F : Hid (irB ps rg cn mn q (4, r, ra, rb, k, args, cost, mt, ip) = false) := hid (by rw [E2.out]; refine decide_eq_false (fun e => ?_); simp only [Prod.mk.injEq] at e; have := LX.out; rw [e.2.2.2.2.1] at this; exact n0 (by simpa using this))
    have n0' : ((0 : Int) == (xn : Int)) = false := by simp; omega
    go_wp2_with fail
    go_ret
    exact ⟨ret_bool F.out.symm, kt BV.out BB.out⟩
  have n0' : ((0 : Int) == (xn : Int)) = true := by simp; omega
  have N0 := hid n0
  clear n0
  by_cases n1 : r = 0
  rotate_left
  · have F : Hid (irB ps rg cn mn q (4, r, ra, rb, k, args, cost, mt, ip) = false) := hid (by rw [E2.out]; refine decide_eq_false (fun e => ?_); simp only [Prod.mk.injEq] at e; exact n1 (by simpa using e.1))
    have n1' : (r == 0) = false := by simp; omega
    go_wp2_with fail
    go_ret
    exact ⟨ret_bool F.out.symm, kt BV.out BB.out⟩
  have n1' : (r == 0) = true := by simp; omega
  have N1 := hid n1
  clear n1
  by_cases n2 : ra = 0
  rotate_left
  · have F : Hid (irB ps rg cn mn q (4, r, ra, rb, k, args, cost, mt, ip) = false) := hid (by rw [E2.out]; refine decide_eq_false (fun e => ?_); simp only [Prod.mk.injEq] at e; exact n2 (by simpa using e.2.1))
    have n2' : (ra == 0) = false := by simp; omega
    go_wp2_with fail
    go_ret
    exact ⟨ret_bool F.out.symm, kt BV.out BB.out⟩
  have n2' : (ra == 0) = true := by simp; omega
  have N2 := hid n2
  clear n2
  by_cases n3 : rb = 0
  rotate_left
  · have F : Hid (irB ps rg cn mn q (4, r, ra, rb, k, args, cost, mt, ip) = false) := hid (by rw [E2.out]; refine decide_eq_false (fun e => ?_); simp only [Prod.mk.injEq] at e; exact n3 (by simpa using e.2.2.1))
    have n3' : (rb == 0) = false := by simp; omega
    go_wp2_with fail
    go_ret
    exact ⟨ret_bool F.out.symm, kt BV.out BB.out⟩
  have n3' : (rb == 0) = true := by simp; omega
  have N3 := hid n3
  clear n3
  by_cases n4 : mt = 0
  rotate_left
  · have F : Hid (irB ps rg cn mn q (4, r, ra, rb, k, args, cost, mt, ip) = false) := hid (by rw [E2.out]; refine decide_eq_false (fun e => ?_); simp only [Prod.mk.injEq] at e; exact n4 (by simpa using e.2.2.2.2.2))
    have n4' : (mt == 0) = false := by simp; omega
    go_wp2_with fail
    go_ret
    exact ⟨ret_bool F.out.symm, kt BV.out BB.out⟩
  have n4' : (mt == 0) = true := by simp; omega
  have N4 := hid n4
  clear n4
  have F : Hid (irB ps rg cn mn q (4, r, ra, rb, k, args, cost, mt, ip) = true) := hid (by
    rw [E2.out]
    refine decide_eq_true ?_
    have ha : args = [] := List.length_eq_zero_iff.1 (by have := LX.out; have := N0.out; omega)
    rw [ha, N1.out, N2.out, N3.out, N4.out])
  go_wp2_with fail
  go_ret
  exact ⟨ret_bool F.out.symm, kt BV.out BB.out⟩

end Go.Proofs.YtfnfbebkeoilfaaGreatDoor

namespace Go.Proofs.YtfnfbebkeoilfaaGreatDoor
open Go.RowKit
set_option linter.unusedVariables false

set_option maxRecDepth 100000 in
set_option maxHeartbeats 16000000 in
theorem refIr5_any (pa : Option Addr) (pn pc : Nat) (cn cc : Nat) (ma : Option Addr) (mn mc : Nat) (ps : List Fn) (cf rg : Int) (q : Nat) (b o : Nat) (r ra rb k : Int) (xa : Option Addr) (xn xc : Nat) (args : List Int) (cost mt ip : Int) (w : World) (hp : Fns w pa pn pc ps) (hq : q < cn) (hr : cn * 88 ≤ 140737488351232) (hcc : cn ≤ cc) (hm : mn * 24 ≤ 140737488351232)
    (e0 : w.cell? ⟨b, o + q * 9, none⟩ = some (.int .i64 5)) (e1 : w.cell? ⟨b, o + q * 9 + 1, none⟩ = some (.int .i64 r)) (e2 : w.cell? ⟨b, o + q * 9 + 2, none⟩ = some (.int .i64 ra)) (e3 : w.cell? ⟨b, o + q * 9 + 3, none⟩ = some (.int .i64 rb)) (e4 : w.cell? ⟨b, o + q * 9 + 4, none⟩ = some (.int .i64 k)) (e5 : w.cell? ⟨b, o + q * 9 + 5, none⟩ = some (.slice xa xn xc)) (e6 : w.cell? ⟨b, o + q * 9 + 6, none⟩ = some (.int .i64 cost)) (e7 : w.cell? ⟨b, o + q * 9 + 7, none⟩ = some (.int .i64 mt)) (e8 : w.cell? ⟨b, o + q * 9 + 8, none⟩ = some (.int .i64 ip)) (hx : Ints w xa xn xc args) :
    Calls Tryz.prog 21 #[.agg #[.slice pa pn pc], .agg #[.int .i64 cf, .int .i64 rg, .slice (some ⟨b, o, none⟩) cn cc, .slice ma mn mc], .int .i64 (q : Int)] w fun e w' => e = .returned (.bool (irB ps rg cn mn q (5, r, ra, rb, k, args, cost, mt, ip))) ∧ Below w.heap.size w w' := by
  have EK : Hid (irB ps rg cn mn q (5, r, ra, rb, k, args, cost, mt, ip) = (headI cost ip && ((regB rg ra && placeOk cn q k cost) && decide ((r, ra, rb, k, args, mt) = (0, ra, 0, k, [], 0))))) := hid irB_k5
  have z := lt_of_cell e0
  have HP := hid hp
  have LP := hid hp.len
  have hpr := hp.room
  have LX := hid hx.len
  have hxr := hx.room
  have HX := hid hx
  clear hp hx
  go_enter Tryz.func21, Tryz.ntmps21
  go_upto_region 3 with fail
  refine wp_name ?_
  intro U hU
  have B : Hid (Below w.heap.size w U) := hid (by rw [hU]; go_grown)
  have p0 : U.cell? ⟨w.heap.size, 0, none⟩ = some (.slice pa pn pc) := by rw [hU]; simp [go_sem]
  have c0 : U.cell? ⟨w.heap.size + 1, 0, none⟩ = some (.int .i64 cf) := by rw [hU]; simp [go_sem]
  have c1 : U.cell? ⟨w.heap.size + 1, 1, none⟩ = some (.int .i64 rg) := by rw [hU]; simp [go_sem]
  have c2 : U.cell? ⟨w.heap.size + 1, 2, none⟩ = some (.slice (some ⟨b, o, none⟩) cn cc) := by rw [hU]; simp [go_sem]
  have c3 : U.cell? ⟨w.heap.size + 1, 3, none⟩ = some (.slice ma mn mc) := by rw [hU]; simp [go_sem]
  have x0 : U.cell? ⟨w.heap.size + 1 + 1, 0, none⟩ = some (.int .i64 5) := by rw [hU]; simp [go_sem]
  have x1 : U.cell? ⟨w.heap.size + 1 + 1, 1, none⟩ = some (.int .i64 r) := by rw [hU]; simp [go_sem]
  have x2 : U.cell? ⟨w.heap.size + 1 + 1, 2, none⟩ = some (.int .i64 ra) := by rw [hU]; simp [go_sem]
  have x3 : U.cell? ⟨w.heap.size + 1 + 1, 3, none⟩ = some (.int .i64 rb) := by rw [hU]; simp [go_sem]
  have x4 : U.cell? ⟨w.heap.size + 1 + 1, 4, none⟩ = some (.int .i64 k) := by rw [hU]; simp [go_sem]
  have x5 : U.cell? ⟨w.heap.size + 1 + 1, 5, none⟩ = some (.slice xa xn xc) := by rw [hU]; simp [go_sem]
  have x6 : U.cell? ⟨w.heap.size + 1 + 1, 6, none⟩ = some (.int .i64 cost) := by rw [hU]; simp [go_sem]
  have x7 : U.cell? ⟨w.heap.size + 1 + 1, 7, none⟩ = some (.int .i64 mt) := by rw [hU]; simp [go_sem]
  have x8 : U.cell? ⟨w.heap.size + 1 + 1, 8, none⟩ = some (.int .i64 ip) := by rw [hU]; simp [go_sem]
  have y0 : U.cell? ⟨w.heap.size + 1 + 1 + 1, 0, none⟩ = some (.int .i64 5) := by rw [hU]; simp [go_sem]
  have y1 : U.cell? ⟨w.heap.size + 1 + 1 + 1, 1, none⟩ = some (.int .i64 0) := by rw [hU]; simp [go_sem]
  have y2 : U.cell? ⟨w.heap.size + 1 + 1 + 1, 2, none⟩ = some (.int .i64 0) := by rw [hU]; simp [go_sem]
  have y3 : U.cell? ⟨w.heap.size + 1 + 1 + 1, 3, none⟩ = some (.int .i64 0) := by rw [hU]; simp [go_sem]
  have y4 : U.cell? ⟨w.heap.size + 1 + 1 + 1, 4, none⟩ = some (.int .i64 0) := by rw [hU]; simp [go_sem]
  have y5 : U.cell? ⟨w.heap.size + 1 + 1 + 1, 5, none⟩ = some (.slice none 0 0) := by rw [hU]; simp [go_sem]
  have y6 : U.cell? ⟨w.heap.size + 1 + 1 + 1, 6, none⟩ = some (.int .i64 cost) := by rw [hU]; simp [go_sem]
  have y7 : U.cell? ⟨w.heap.size + 1 + 1 + 1, 7, none⟩ = some (.int .i64 0) := by rw [hU]; simp [go_sem]
  have y8 : U.cell? ⟨w.heap.size + 1 + 1 + 1, 8, none⟩ = some (.int .i64 ip) := by rw [hU]; simp [go_sem]
  have yf : ∀ j, U.frozen? ⟨w.heap.size + 1 + 1 + 1, j, none⟩ = false := by intro j; rw [hU]; simp [go_sem]
  clear hU e0 e1 e2 e3 e4 e5 e6 e7 e8
  by_cases k0 : 0 ≤ cost
  rotate_left
  · have F : Hid (irB ps rg cn mn q (5, r, ra, rb, k, args, cost, mt, ip) = false) := hid (by rw [EK.out, show headI cost ip = false by unfold headI; exact decide_eq_false (by omega)]; rfl)
    have k0' : decide (0 ≤ cost) = false := by simpa using k0
    go_wp2_with fail
    go_ret
    exact ⟨ret_bool F.out.symm, by repeat (first | exact B.out | refine Below.setCell ?_ (by simp; omega) _)⟩
  by_cases k1 : cost ≤ 256
  rotate_left
  · have F : Hid (irB ps rg cn mn q (5, r, ra, rb, k, args, cost, mt, ip) = false) := hid (by rw [EK.out, show headI cost ip = false by unfold headI; exact decide_eq_false (by omega)]; rfl)
    have k1' : decide (cost ≤ 256) = false := by simpa using k1
    go_wp2_with fail
    go_ret
    exact ⟨ret_bool F.out.symm, by repeat (first | exact B.out | refine Below.setCell ?_ (by simp; omega) _)⟩
  by_cases k2 : 0 ≤ ip
  rotate_left
  · have F : Hid (irB ps rg cn mn q (5, r, ra, rb, k, args, cost, mt, ip) = false) := hid (by rw [EK.out, show headI cost ip = false by unfold headI; exact decide_eq_false (by omega)]; rfl)
    have k2' : decide (0 ≤ ip) = false := by simpa using k2
    go_wp2_with fail
    go_ret
    exact ⟨ret_bool F.out.symm, by repeat (first | exact B.out | refine Below.setCell ?_ (by simp; omega) _)⟩
  by_cases k3 : ip < 64
  rotate_left
  · have F : Hid (irB ps rg cn mn q (5, r, ra, rb, k, args, cost, mt, ip) = false) := hid (by rw [EK.out, show headI cost ip = false by unfold headI; exact decide_eq_false (by omega)]; rfl)
    have k3' : decide (ip < 64) = false := by simpa using k3
    go_wp2_with fail
    go_ret
    exact ⟨ret_bool F.out.symm, by repeat (first | exact B.out | refine Below.setCell ?_ (by simp; omega) _)⟩
  have k3' : decide (ip < 64) = true := by simpa using k3
  have hd : headI cost ip = true := by unfold headI; exact decide_eq_true (by omega)
  have E1 : Hid (irB ps rg cn mn q (5, r, ra, rb, k, args, cost, mt, ip) = ((regB rg ra && placeOk cn q k cost) && decide ((r, ra, rb, k, args, mt) = (0, ra, 0, k, [], 0)))) := hid (by rw [EK.out, hd]; rfl)
  clear hd
  go_upto_region 29 with fail
  refine wp_name ?_
  intro V hV
  have BV : Hid (Below w.heap.size w V) := hid (by rw [hV]; repeat (first | exact B.out | refine Below.setCell ?_ (by simp; omega) _))
  have vp0 : V.cell? ⟨w.heap.size, 0, none⟩ = some (.slice pa pn pc) := by rw [hV]; simp [go_sem, p0]
  have vc0 : V.cell? ⟨w.heap.size + 1, 0, none⟩ = some (.int .i64 cf) := by rw [hV]; simp [go_sem, c0]
  have vc1 : V.cell? ⟨w.heap.size + 1, 1, none⟩ = some (.int .i64 rg) := by rw [hV]; simp [go_sem, c1]
  have vc2 : V.cell? ⟨w.heap.size + 1, 2, none⟩ = some (.slice (some ⟨b, o, none⟩) cn cc) := by rw [hV]; simp [go_sem, c2]
  have vc3 : V.cell? ⟨w.heap.size + 1, 3, none⟩ = some (.slice ma mn mc) := by rw [hV]; simp [go_sem, c3]
  have vx0 : V.cell? ⟨w.heap.size + 1 + 1, 0, none⟩ = some (.int .i64 5) := by rw [hV]; simp [go_sem, x0]
  have vx1 : V.cell? ⟨w.heap.size + 1 + 1, 1, none⟩ = some (.int .i64 r) := by rw [hV]; simp [go_sem, x1]
  have vx2 : V.cell? ⟨w.heap.size + 1 + 1, 2, none⟩ = some (.int .i64 ra) := by rw [hV]; simp [go_sem, x2]
  have vx3 : V.cell? ⟨w.heap.size + 1 + 1, 3, none⟩ = some (.int .i64 rb) := by rw [hV]; simp [go_sem, x3]
  have vx4 : V.cell? ⟨w.heap.size + 1 + 1, 4, none⟩ = some (.int .i64 k) := by rw [hV]; simp [go_sem, x4]
  have vx5 : V.cell? ⟨w.heap.size + 1 + 1, 5, none⟩ = some (.slice xa xn xc) := by rw [hV]; simp [go_sem, x5]
  have vx6 : V.cell? ⟨w.heap.size + 1 + 1, 6, none⟩ = some (.int .i64 cost) := by rw [hV]; simp [go_sem, x6]
  have vx7 : V.cell? ⟨w.heap.size + 1 + 1, 7, none⟩ = some (.int .i64 mt) := by rw [hV]; simp [go_sem, x7]
  have vx8 : V.cell? ⟨w.heap.size + 1 + 1, 8, none⟩ = some (.int .i64 ip) := by rw [hV]; simp [go_sem, x8]
  have vy0 : V.cell? ⟨w.heap.size + 1 + 1 + 1, 0, none⟩ = some (.int .i64 5) := by rw [hV]; simp [go_sem, y0]
  have vy1 : V.cell? ⟨w.heap.size + 1 + 1 + 1, 1, none⟩ = some (.int .i64 0) := by rw [hV]; simp [go_sem, y1]
  have vy2 : V.cell? ⟨w.heap.size + 1 + 1 + 1, 2, none⟩ = some (.int .i64 ra) := by rw [hV]; simp [go_sem, y2]
  have vy3 : V.cell? ⟨w.heap.size + 1 + 1 + 1, 3, none⟩ = some (.int .i64 0) := by rw [hV]; simp [go_sem, y3]
  have vy4 : V.cell? ⟨w.heap.size + 1 + 1 + 1, 4, none⟩ = some (.int .i64 k) := by rw [hV]; simp [go_sem, y4]
  have vy5 : V.cell? ⟨w.heap.size + 1 + 1 + 1, 5, none⟩ = some (.slice none 0 0) := by rw [hV]; simp [go_sem, y5]
  have vy6 : V.cell? ⟨w.heap.size + 1 + 1 + 1, 6, none⟩ = some (.int .i64 cost) := by rw [hV]; simp [go_sem, y6]
  have vy7 : V.cell? ⟨w.heap.size + 1 + 1 + 1, 7, none⟩ = some (.int .i64 0) := by rw [hV]; simp [go_sem, y7]
  have vy8 : V.cell? ⟨w.heap.size + 1 + 1 + 1, 8, none⟩ = some (.int .i64 ip) := by rw [hV]; simp [go_sem, y8]
  clear hV p0 c0 c1 c2 c3 x0 x1 x2 x3 x4 x5 x6 x7 x8 y0 y1 y2 y3 y4 y5 y6 y7 y8 yf
  have p0 := vp0
  clear vp0
  have c0 := vc0
  clear vc0
  have c1 := vc1
  clear vc1
  have c2 := vc2
  clear vc2
  have c3 := vc3
  clear vc3
  have x0 := vx0
  clear vx0
  have x1 := vx1
  clear vx1
  have x2 := vx2
  clear vx2
  have x3 := vx3
  clear vx3
  have x4 := vx4
  clear vx4
  have x5 := vx5
  clear vx5
  have x6 := vx6
  clear vx6
  have x7 := vx7
  clear vx7
  have x8 := vx8
  clear vx8
  have y0 := vy0
  clear vy0
  have y1 := vy1
  clear vy1
  have y2 := vy2
  clear vy2
  have y3 := vy3
  clear vy3
  have y4 := vy4
  clear vy4
  have y5 := vy5
  clear vy5
  have y6 := vy6
  clear vy6
  have y7 := vy7
  clear vy7
  have y8 := vy8
  clear vy8
  have BB : Hid (Below V.heap.size V V) := hid (Below.refl _ _)
  go_wp2_with fail
  refine (refReg_any cf rg _ _ _ _ _ _ ra _).mono ?_
  rintro e w1 ⟨rfl, b1⟩
  replace BB := hid (kt BB.out b1)
  replace p0 := kept_cell b1 p0
  replace c0 := kept_cell b1 c0
  replace c1 := kept_cell b1 c1
  replace c2 := kept_cell b1 c2
  replace c3 := kept_cell b1 c3
  replace x0 := kept_cell b1 x0
  replace x1 := kept_cell b1 x1
  replace x2 := kept_cell b1 x2
  replace x3 := kept_cell b1 x3
  replace x4 := kept_cell b1 x4
  replace x5 := kept_cell b1 x5
  replace x6 := kept_cell b1 x6
  replace x7 := kept_cell b1 x7
  replace x8 := kept_cell b1 x8
  replace y0 := kept_cell b1 y0
  replace y1 := kept_cell b1 y1
  replace y2 := kept_cell b1 y2
  replace y3 := kept_cell b1 y3
  replace y4 := kept_cell b1 y4
  replace y5 := kept_cell b1 y5
  replace y6 := kept_cell b1 y6
  replace y7 := kept_cell b1 y7
  replace y8 := kept_cell b1 y8
  clear b1
  cases h0 : regB rg ra
  · have F : Hid (irB ps rg cn mn q (5, r, ra, rb, k, args, cost, mt, ip) = false) := hid (by rw [E1.out, show (regB rg ra && placeOk cn q k cost) = false by rw [h0]; rfl]; rfl)
    clear h0
    go_wp2_with fail
    go_ret
    exact ⟨ret_bool F.out.symm, kt BV.out BB.out⟩
  by_cases d10 : 0 ≤ k
  rotate_left
  · have g10 : decide (0 ≤ k) = false := by simp; omega
    have F : Hid (irB ps rg cn mn q (5, r, ra, rb, k, args, cost, mt, ip) = false) := hid (by rw [E1.out, show (regB rg ra && placeOk cn q k cost) = false by rw [h0, (show placeOk cn q k cost = false by first | exact decide_eq_false (by omega) | (unfold placeOk; exact decide_eq_false (by omega)) | (unfold inB; exact decide_eq_false (by omega)))]; rfl]; rfl)
    go_wp2_with fail
    go_ret
    exact ⟨ret_bool F.out.symm, kt BV.out BB.out⟩
  have g10 : decide (0 ≤ k) = true := by simp; omega
  by_cases d11 : k < (cn : Int)
  rotate_left
  · have g11 : decide (k < (cn : Int)) = false := by simp; omega
    have F : Hid (irB ps rg cn mn q (5, r, ra, rb, k, args, cost, mt, ip) = false) := hid (by rw [E1.out, show (regB rg ra && placeOk cn q k cost) = false by rw [h0, (show placeOk cn q k cost = false by first | exact decide_eq_false (by omega) | (unfold placeOk; exact decide_eq_false (by omega)) | (unfold inB; exact decide_eq_false (by omega)))]; rfl]; rfl)
    go_wp2_with fail
    go_ret
    exact ⟨ret_bool F.out.symm, kt BV.out BB.out⟩
  have g11 : decide (k < (cn : Int)) = true := by simp; omega
  by_cases d12 : (q : Int) < k
  · have g12 : decide ((q : Int) < k) = true := by simp; omega
    have h1 : placeOk cn q k cost = true := by first | exact decide_eq_true (by omega) | (unfold placeOk; exact decide_eq_true (by omega)) | (unfold inB; exact decide_eq_true (by omega))
    have E2 : Hid (irB ps rg cn mn q (5, r, ra, rb, k, args, cost, mt, ip) = decide ((r, ra, rb, k, args, mt) = (0, ra, 0, k, [], 0))) := hid (by rw [E1.out, show (regB rg ra && placeOk cn q k cost) = true by rw [h0, h1]; rfl]; rfl)
    clear h0 h1
    go_upto_region 53 with fail
    by_cases n0 : xn = 0
    rotate_left
    · have F : Hid (irB ps rg cn mn q (5, r, ra, rb, k, args, cost, mt, ip) = false) := hid (by rw [E2.out]; refine decide_eq_false (fun e => ?_); simp only [Prod.mk.injEq] at e; have := LX.out; rw [e.2.2.2.2.1] at this; exact n0 (by simpa using this))
      have n0' : ((0 : Int) == (xn : Int)) = false := by simp; omega
      go_wp2_with fail
      go_ret
      exact ⟨ret_bool F.out.symm, kt BV.out BB.out⟩
    have n0' : ((0 : Int) == (xn : Int)) = true := by simp; omega
    have N0 := hid n0
    clear n0
    by_cases n1 : r = 0
    rotate_left
    · have F : Hid (irB ps rg cn mn q (5, r, ra, rb, k, args, cost, mt, ip) = false) := hid (by rw [E2.out]; refine decide_eq_false (fun e => ?_); simp only [Prod.mk.injEq] at e; exact n1 (by simpa using e.1))
      have n1' : (r == 0) = false := by simp; omega
      go_wp2_with fail
      go_ret
      exact ⟨ret_bool F.out.symm, kt BV.out BB.out⟩
    have n1' : (r == 0) = true := by simp; omega
    have N1 := hid n1
    clear n1
    by_cases n2 : rb = 0
    rotate_left
    · have F : Hid (irB ps rg cn mn q (5, r, ra, rb, k, args, cost, mt, ip) = false) := hid (by rw [E2.out]; refine decide_eq_false (fun e => ?_); simp only [Prod.mk.injEq] at e; exact n2 (by simpa using e.2.2.1))
      have n2' : (rb == 0) = false := by simp; omega
      go_wp2_with fail
      go_ret
      exact ⟨ret_bool F.out.symm, kt BV.out BB.out⟩
    have n2' : (rb == 0) = true := by simp; omega
    have N2 := hid n2
    clear n2
    by_cases n3 : mt = 0
    rotate_left
    · have F : Hid (irB ps rg cn mn q (5, r, ra, rb, k, args, cost, mt, ip) = false) := hid (by rw [E2.out]; refine decide_eq_false (fun e => ?_); simp only [Prod.mk.injEq] at e; exact n3 (by simpa using e.2.2.2.2.2))
      have n3' : (mt == 0) = false := by simp; omega
      go_wp2_with fail
      go_ret
      exact ⟨ret_bool F.out.symm, kt BV.out BB.out⟩
    have n3' : (mt == 0) = true := by simp; omega
    have N3 := hid n3
    clear n3
    have F : Hid (irB ps rg cn mn q (5, r, ra, rb, k, args, cost, mt, ip) = true) := hid (by
      rw [E2.out]
      refine decide_eq_true ?_
      have ha : args = [] := List.length_eq_zero_iff.1 (by have := LX.out; have := N0.out; omega)
      rw [ha, N1.out, N2.out, N3.out])
    go_wp2_with fail
    go_ret
    exact ⟨ret_bool F.out.symm, kt BV.out BB.out⟩
  have g12 : decide ((q : Int) < k) = false := by simp; omega
  by_cases f12 : 0 < cost
  rotate_left
  · have gg12 : decide (0 < cost) = false := by simp; omega
    have F : Hid (irB ps rg cn mn q (5, r, ra, rb, k, args, cost, mt, ip) = false) := hid (by rw [E1.out, show (regB rg ra && placeOk cn q k cost) = false by rw [h0, (show placeOk cn q k cost = false by first | exact decide_eq_false (by omega) | (unfold placeOk; exact decide_eq_false (by omega)) | (unfold inB; exact decide_eq_false (by omega)))]; rfl]; rfl)
    go_wp2_with fail
    go_ret
    exact ⟨ret_bool F.out.symm, kt BV.out BB.out⟩
  have gg12 : decide (0 < cost) = true := by simp; omega
  have h1 : placeOk cn q k cost = true := by first | exact decide_eq_true (by omega) | (unfold placeOk; exact decide_eq_true (by omega)) | (unfold inB; exact decide_eq_true (by omega))
  have E2 : Hid (irB ps rg cn mn q (5, r, ra, rb, k, args, cost, mt, ip) = decide ((r, ra, rb, k, args, mt) = (0, ra, 0, k, [], 0))) := hid (by rw [E1.out, show (regB rg ra && placeOk cn q k cost) = true by rw [h0, h1]; rfl]; rfl)
  clear h0 h1
  go_upto_region 53 with fail
  by_cases n0 : xn = 0
  rotate_left
  · have F : Hid (irB ps rg cn mn q (5, r, ra, rb, k, args, cost, mt, ip) = false) := hid (by rw [E2.out]; refine decide_eq_false (fun e => ?_); simp only [Prod.mk.injEq] at e; have := LX.out; rw [e.2.2.2.2.1] at this; exact n0 (by simpa using this))
    have n0' : ((0 : Int) == (xn : Int)) = false := by simp; omega
    go_wp2_with fail
    go_ret
    exact ⟨ret_bool F.out.symm, kt BV.out BB.out⟩
  have n0' : ((0 : Int) == (xn : Int)) = true := by simp; omega
  have N0 := hid n0
  clear n0
  by_cases n1 : r = 0
  rotate_left
  · have F : Hid (irB ps rg cn mn q (5, r, ra, rb, k, args, cost, mt, ip) = false) := hid (by rw [E2.out]; refine decide_eq_false (fun e => ?_); simp only [Prod.mk.injEq] at e; exact n1 (by simpa using e.1))
    have n1' : (r == 0) = false := by simp; omega
    go_wp2_with fail
    go_ret
    exact ⟨ret_bool F.out.symm, kt BV.out BB.out⟩
  have n1' : (r == 0) = true := by simp; omega
  have N1 := hid n1
  clear n1
  by_cases n2 : rb = 0
  rotate_left
  · have F : Hid (irB ps rg cn mn q (5, r, ra, rb, k, args, cost, mt, ip) = false) := hid (by rw [E2.out]; refine decide_eq_false (fun e => ?_); simp only [Prod.mk.injEq] at e; exact n2 (by simpa using e.2.2.1))
    have n2' : (rb == 0) = false := by simp; omega
    go_wp2_with fail
    go_ret
    exact ⟨ret_bool F.out.symm, kt BV.out BB.out⟩
  have n2' : (rb == 0) = true := by simp; omega
  have N2 := hid n2
  clear n2
  by_cases n3 : mt = 0
  rotate_left
  · have F : Hid (irB ps rg cn mn q (5, r, ra, rb, k, args, cost, mt, ip) = false) := hid (by rw [E2.out]; refine decide_eq_false (fun e => ?_); simp only [Prod.mk.injEq] at e; exact n3 (by simpa using e.2.2.2.2.2))
    have n3' : (mt == 0) = false := by simp; omega
    go_wp2_with fail
    go_ret
    exact ⟨ret_bool F.out.symm, kt BV.out BB.out⟩
  have n3' : (mt == 0) = true := by simp; omega
  have N3 := hid n3
  clear n3
  have F : Hid (irB ps rg cn mn q (5, r, ra, rb, k, args, cost, mt, ip) = true) := hid (by
    rw [E2.out]
    refine decide_eq_true ?_
    have ha : args = [] := List.length_eq_zero_iff.1 (by have := LX.out; have := N0.out; omega)
    rw [ha, N1.out, N2.out, N3.out])
  go_wp2_with fail
  go_ret
  exact ⟨ret_bool F.out.symm, kt BV.out BB.out⟩

end Go.Proofs.YtfnfbebkeoilfaaGreatDoor
