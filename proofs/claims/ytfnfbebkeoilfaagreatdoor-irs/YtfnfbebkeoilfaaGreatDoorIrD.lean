/- Package ir: isIr: all that a kind asks of an instruction's fields. Written by irgen.py. -/
import Derived.Test.YtfnfbebkeoilfaaGreatDoorIrC
import Derived.Test.YtfnfbebkeoilfaaGreatDoorWpName
import Derived.Deep.DeepCutAuto
namespace Go.Proofs.YtfnfbebkeoilfaaGreatDoor
open Go.RowKit
set_option linter.unusedVariables false

set_option maxRecDepth 100000 in
set_option maxHeartbeats 8000000 in
theorem irIsIr_any (pa : Option Addr) (pn pc : Nat) (ha : Option Addr) (hn hc : Nat) (ca : Option Addr) (cn cc : Nat) (ma : Option Addr) (mn mc : Nat) (ps : List Fn) (cl : List IrT) (ml : List (List PartT)) (cf rg : Int) (w : World) (K : Chk w pa pn pc ha hn hc ca cn cc ma mn mc ps cl ml) (kd r ra rb k : Int) (xa : Option Addr) (xn xc : Nat) (args : List Int) (cost mt ip : Int) (hx : Ints w xa xn xc args) :
    Calls Tryz.prog 50 #[.agg #[.slice pa pn pc, .slice ha hn hc, .int .i64 cf, .int .i64 rg, .slice ca cn cc, .slice ma mn mc], .agg #[.int .i64 kd, .int .i64 r, .int .i64 ra, .int .i64 rb, .int .i64 k, .slice xa xn xc, .int .i64 cost, .int .i64 mt, .int .i64 ip]] w fun e w' => e = .returned (.bool (fieldsB ps rg cn mn (kd, r, ra, rb, k, args, cost, mt, ip))) ∧ Below w.heap.size w w' := by
  have HK := hid K
  have HX := hid hx
  clear K hx
  go_enter Tryz.func50, Tryz.ntmps50
  go_wp2_with fail
  refine (fieldsOf_any kd _).mono ?_
  rintro e U ⟨sr, sa, sb, sk, sg, sm, es, rfl, bU⟩
  have B0 : Hid (Below w.heap.size w U) := hid (kt (by go_grown) bU)
  have E0 : Hid (fieldsB ps rg cn mn (kd, r, ra, rb, k, args, cost, mt, ip) = (irKindB kd && (inB 257 cost && (inB 64 ip && (holdsB ps.length rg cn mn sr r && (holdsB ps.length rg cn mn sa ra && (holdsB ps.length rg cn mn sb rb && (holdsB ps.length rg cn mn sk k && (holdsB ps.length rg cn mn sm mt && argsOk ps rg cn mn sk sg k args))))))))) := hid (by simp only [fieldsB, es])
  have p0 := kept_cell bU (b := w.heap.size) (o := 0) (v := .slice pa pn pc) (by simp [go_sem])
  have p1 := kept_cell bU (b := w.heap.size) (o := 1) (v := .slice ha hn hc) (by simp [go_sem])
  have p2 := kept_cell bU (b := w.heap.size) (o := 2) (v := .int .i64 cf) (by simp [go_sem])
  have p3 := kept_cell bU (b := w.heap.size) (o := 3) (v := .int .i64 rg) (by simp [go_sem])
  have p4 := kept_cell bU (b := w.heap.size) (o := 4) (v := .slice ca cn cc) (by simp [go_sem])
  have p5 := kept_cell bU (b := w.heap.size) (o := 5) (v := .slice ma mn mc) (by simp [go_sem])
  have i0 := kept_cell bU (b := w.heap.size + 1) (o := 0) (v := .int .i64 kd) (by simp [go_sem])
  have i1 := kept_cell bU (b := w.heap.size + 1) (o := 1) (v := .int .i64 r) (by simp [go_sem])
  have i2 := kept_cell bU (b := w.heap.size + 1) (o := 2) (v := .int .i64 ra) (by simp [go_sem])
  have i3 := kept_cell bU (b := w.heap.size + 1) (o := 3) (v := .int .i64 rb) (by simp [go_sem])
  have i4 := kept_cell bU (b := w.heap.size + 1) (o := 4) (v := .int .i64 k) (by simp [go_sem])
  have i5 := kept_cell bU (b := w.heap.size + 1) (o := 5) (v := .slice xa xn xc) (by simp [go_sem])
  have i6 := kept_cell bU (b := w.heap.size + 1) (o := 6) (v := .int .i64 cost) (by simp [go_sem])
  have i7 := kept_cell bU (b := w.heap.size + 1) (o := 7) (v := .int .i64 mt) (by simp [go_sem])
  have i8 := kept_cell bU (b := w.heap.size + 1) (o := 8) (v := .int .i64 ip) (by simp [go_sem])
  clear bU es
  go_upto_region 2 with fail
  refine wp_name ?_
  intro V hV
  have A : Hid (Below U.heap.size U V) := hid (by rw [hV]; first | exact Below.refl _ _ | go_grown)
  have B := hid (kt B0.out A.out)
  have f0 : V.cell? ⟨U.heap.size, 0, none⟩ = some (.int .i64 sr) := by rw [hV]; simp [go_sem]
  have f1 : V.cell? ⟨U.heap.size, 1, none⟩ = some (.int .i64 sa) := by rw [hV]; simp [go_sem]
  have f2 : V.cell? ⟨U.heap.size, 2, none⟩ = some (.int .i64 sb) := by rw [hV]; simp [go_sem]
  have f3 : V.cell? ⟨U.heap.size, 3, none⟩ = some (.int .i64 sk) := by rw [hV]; simp [go_sem]
  have f4 : V.cell? ⟨U.heap.size, 4, none⟩ = some (.int .i64 sg) := by rw [hV]; simp [go_sem]
  have f5 : V.cell? ⟨U.heap.size, 5, none⟩ = some (.int .i64 sm) := by rw [hV]; simp [go_sem]
  replace p0 := kept_cell A.out p0
  replace p1 := kept_cell A.out p1
  replace p2 := kept_cell A.out p2
  replace p3 := kept_cell A.out p3
  replace p4 := kept_cell A.out p4
  replace p5 := kept_cell A.out p5
  replace i0 := kept_cell A.out i0
  replace i1 := kept_cell A.out i1
  replace i2 := kept_cell A.out i2
  replace i3 := kept_cell A.out i3
  replace i4 := kept_cell A.out i4
  replace i5 := kept_cell A.out i5
  replace i6 := kept_cell A.out i6
  replace i7 := kept_cell A.out i7
  replace i8 := kept_cell A.out i8
  clear hV B0
  cases hk0 : irKindB kd
  · have F : Hid (fieldsB ps rg cn mn (kd, r, ra, rb, k, args, cost, mt, ip) = false) := hid (by rw [E0.out, hk0]; rfl)
    go_wp2_with fail
    go_ret
    exact ⟨ret_bool F.out.symm, B.out⟩
  have E1 : Hid (fieldsB ps rg cn mn (kd, r, ra, rb, k, args, cost, mt, ip) = (inB 257 cost && (inB 64 ip && (holdsB ps.length rg cn mn sr r && (holdsB ps.length rg cn mn sa ra && (holdsB ps.length rg cn mn sb rb && (holdsB ps.length rg cn mn sk k && (holdsB ps.length rg cn mn sm mt && argsOk ps rg cn mn sk sg k args)))))))) := hid (by rw [E0.out, hk0]; rfl)
  clear E0 hk0 A
  go_wp2_with fail
  refine (irBelow_any cost 257 _).mono ?_
  rintro e w1 ⟨rfl, hw⟩
  rw [hw]
  clear hw w1
  cases hk : decide (0 ≤ cost ∧ cost < 257)
  · have F : Hid (fieldsB ps rg cn mn (kd, r, ra, rb, k, args, cost, mt, ip) = false) := hid (by rw [E1.out, show inB 257 cost = false from hk]; rfl)
    go_wp2_with fail
    go_ret
    exact ⟨ret_bool F.out.symm, B.out⟩
  have E2 : Hid (fieldsB ps rg cn mn (kd, r, ra, rb, k, args, cost, mt, ip) = (inB 64 ip && (holdsB ps.length rg cn mn sr r && (holdsB ps.length rg cn mn sa ra && (holdsB ps.length rg cn mn sb rb && (holdsB ps.length rg cn mn sk k && (holdsB ps.length rg cn mn sm mt && argsOk ps rg cn mn sk sg k args))))))) := hid (by rw [E1.out, show inB 257 cost = true from hk]; rfl)
  clear hk E1
  go_wp2_with fail
  refine (irBelow_any ip 64 _).mono ?_
  rintro e w1 ⟨rfl, hw⟩
  rw [hw]
  clear hw w1
  cases hk : decide (0 ≤ ip ∧ ip < 64)
  · have F : Hid (fieldsB ps rg cn mn (kd, r, ra, rb, k, args, cost, mt, ip) = false) := hid (by rw [E2.out, show inB 64 ip = false from hk]; rfl)
    go_wp2_with fail
    go_ret
    exact ⟨ret_bool F.out.symm, B.out⟩
  have E3 : Hid (fieldsB ps rg cn mn (kd, r, ra, rb, k, args, cost, mt, ip) = (holdsB ps.length rg cn mn sr r && (holdsB ps.length rg cn mn sa ra && (holdsB ps.length rg cn mn sb rb && (holdsB ps.length rg cn mn sk k && (holdsB ps.length rg cn mn sm mt && argsOk ps rg cn mn sk sg k args)))))) := hid (by rw [E2.out, show inB 64 ip = true from hk]; rfl)
  clear hk E2
  go_wp2_with fail
  refine (irHolds_any _ _ _ _ _ _ _ _ _ _ _ _ ps cl ml cf rg _ (HK.out.kept B.out) sr r).mono ?_
  rintro e w1 ⟨rfl, b1⟩
  replace B := hid (kt B.out b1)
  replace p0 := kept_cell b1 p0
  replace p1 := kept_cell b1 p1
  replace p2 := kept_cell b1 p2
  replace p3 := kept_cell b1 p3
  replace p4 := kept_cell b1 p4
  replace p5 := kept_cell b1 p5
  replace i0 := kept_cell b1 i0
  replace i1 := kept_cell b1 i1
  replace i2 := kept_cell b1 i2
  replace i3 := kept_cell b1 i3
  replace i4 := kept_cell b1 i4
  replace i5 := kept_cell b1 i5
  replace i6 := kept_cell b1 i6
  replace i7 := kept_cell b1 i7
  replace i8 := kept_cell b1 i8
  replace f0 := kept_cell b1 f0
  replace f1 := kept_cell b1 f1
  replace f2 := kept_cell b1 f2
  replace f3 := kept_cell b1 f3
  replace f4 := kept_cell b1 f4
  replace f5 := kept_cell b1 f5
  clear b1
  cases hk : holdsB ps.length rg cn mn sr r
  · have F : Hid (fieldsB ps rg cn mn (kd, r, ra, rb, k, args, cost, mt, ip) = false) := hid (by rw [E3.out, show holdsB ps.length rg cn mn sr r = false from hk]; rfl)
    go_wp2_with fail
    go_ret
    exact ⟨ret_bool F.out.symm, B.out⟩
  have E4 : Hid (fieldsB ps rg cn mn (kd, r, ra, rb, k, args, cost, mt, ip) = (holdsB ps.length rg cn mn sa ra && (holdsB ps.length rg cn mn sb rb && (holdsB ps.length rg cn mn sk k && (holdsB ps.length rg cn mn sm mt && argsOk ps rg cn mn sk sg k args))))) := hid (by rw [E3.out, show holdsB ps.length rg cn mn sr r = true from hk]; rfl)
  clear hk E3
  go_wp2_with fail
  refine (irHolds_any _ _ _ _ _ _ _ _ _ _ _ _ ps cl ml cf rg _ (HK.out.kept B.out) sa ra).mono ?_
  rintro e w1 ⟨rfl, b1⟩
  replace B := hid (kt B.out b1)
  replace p0 := kept_cell b1 p0
  replace p1 := kept_cell b1 p1
  replace p2 := kept_cell b1 p2
  replace p3 := kept_cell b1 p3
  replace p4 := kept_cell b1 p4
  replace p5 := kept_cell b1 p5
  replace i0 := kept_cell b1 i0
  replace i1 := kept_cell b1 i1
  replace i2 := kept_cell b1 i2
  replace i3 := kept_cell b1 i3
  replace i4 := kept_cell b1 i4
  replace i5 := kept_cell b1 i5
  replace i6 := kept_cell b1 i6
  replace i7 := kept_cell b1 i7
  replace i8 := kept_cell b1 i8
  replace f0 := kept_cell b1 f0
  replace f1 := kept_cell b1 f1
  replace f2 := kept_cell b1 f2
  replace f3 := kept_cell b1 f3
  replace f4 := kept_cell b1 f4
  replace f5 := kept_cell b1 f5
  clear b1
  cases hk : holdsB ps.length rg cn mn sa ra
  · have F : Hid (fieldsB ps rg cn mn (kd, r, ra, rb, k, args, cost, mt, ip) = false) := hid (by rw [E4.out, show holdsB ps.length rg cn mn sa ra = false from hk]; rfl)
    go_wp2_with fail
    go_ret
    exact ⟨ret_bool F.out.symm, B.out⟩
  have E5 : Hid (fieldsB ps rg cn mn (kd, r, ra, rb, k, args, cost, mt, ip) = (holdsB ps.length rg cn mn sb rb && (holdsB ps.length rg cn mn sk k && (holdsB ps.length rg cn mn sm mt && argsOk ps rg cn mn sk sg k args)))) := hid (by rw [E4.out, show holdsB ps.length rg cn mn sa ra = true from hk]; rfl)
  clear hk E4
  go_wp2_with fail
  refine (irHolds_any _ _ _ _ _ _ _ _ _ _ _ _ ps cl ml cf rg _ (HK.out.kept B.out) sb rb).mono ?_
  rintro e w1 ⟨rfl, b1⟩
  replace B := hid (kt B.out b1)
  replace p0 := kept_cell b1 p0
  replace p1 := kept_cell b1 p1
  replace p2 := kept_cell b1 p2
  replace p3 := kept_cell b1 p3
  replace p4 := kept_cell b1 p4
  replace p5 := kept_cell b1 p5
  replace i0 := kept_cell b1 i0
  replace i1 := kept_cell b1 i1
  replace i2 := kept_cell b1 i2
  replace i3 := kept_cell b1 i3
  replace i4 := kept_cell b1 i4
  replace i5 := kept_cell b1 i5
  replace i6 := kept_cell b1 i6
  replace i7 := kept_cell b1 i7
  replace i8 := kept_cell b1 i8
  replace f0 := kept_cell b1 f0
  replace f1 := kept_cell b1 f1
  replace f2 := kept_cell b1 f2
  replace f3 := kept_cell b1 f3
  replace f4 := kept_cell b1 f4
  replace f5 := kept_cell b1 f5
  clear b1
  cases hk : holdsB ps.length rg cn mn sb rb
  · have F : Hid (fieldsB ps rg cn mn (kd, r, ra, rb, k, args, cost, mt, ip) = false) := hid (by rw [E5.out, show holdsB ps.length rg cn mn sb rb = false from hk]; rfl)
    go_wp2_with fail
    go_ret
    exact ⟨ret_bool F.out.symm, B.out⟩
  have E6 : Hid (fieldsB ps rg cn mn (kd, r, ra, rb, k, args, cost, mt, ip) = (holdsB ps.length rg cn mn sk k && (holdsB ps.length rg cn mn sm mt && argsOk ps rg cn mn sk sg k args))) := hid (by rw [E5.out, show holdsB ps.length rg cn mn sb rb = true from hk]; rfl)
  clear hk E5
  go_wp2_with fail
  refine (irHolds_any _ _ _ _ _ _ _ _ _ _ _ _ ps cl ml cf rg _ (HK.out.kept B.out) sk k).mono ?_
  rintro e w1 ⟨rfl, b1⟩
  replace B := hid (kt B.out b1)
  replace p0 := kept_cell b1 p0
  replace p1 := kept_cell b1 p1
  replace p2 := kept_cell b1 p2
  replace p3 := kept_cell b1 p3
  replace p4 := kept_cell b1 p4
  replace p5 := kept_cell b1 p5
  replace i0 := kept_cell b1 i0
  replace i1 := kept_cell b1 i1
  replace i2 := kept_cell b1 i2
  replace i3 := kept_cell b1 i3
  replace i4 := kept_cell b1 i4
  replace i5 := kept_cell b1 i5
  replace i6 := kept_cell b1 i6
  replace i7 := kept_cell b1 i7
  replace i8 := kept_cell b1 i8
  replace f0 := kept_cell b1 f0
  replace f1 := kept_cell b1 f1
  replace f2 := kept_cell b1 f2
  replace f3 := kept_cell b1 f3
  replace f4 := kept_cell b1 f4
  replace f5 := kept_cell b1 f5
  clear b1
  cases hk : holdsB ps.length rg cn mn sk k
  · have F : Hid (fieldsB ps rg cn mn (kd, r, ra, rb, k, args, cost, mt, ip) = false) := hid (by rw [E6.out, show holdsB ps.length rg cn mn sk k = false from hk]; rfl)
    go_wp2_with fail
    go_ret
    exact ⟨ret_bool F.out.symm, B.out⟩
  have E7 : Hid (fieldsB ps rg cn mn (kd, r, ra, rb, k, args, cost, mt, ip) = (holdsB ps.length rg cn mn sm mt && argsOk ps rg cn mn sk sg k args)) := hid (by rw [E6.out, show holdsB ps.length rg cn mn sk k = true from hk]; rfl)
  have HSK := hid hk
  clear hk E6
  go_wp2_with fail
  refine (irHolds_any _ _ _ _ _ _ _ _ _ _ _ _ ps cl ml cf rg _ (HK.out.kept B.out) sm mt).mono ?_
  rintro e w1 ⟨rfl, b1⟩
  replace B := hid (kt B.out b1)
  replace p0 := kept_cell b1 p0
  replace p1 := kept_cell b1 p1
  replace p2 := kept_cell b1 p2
  replace p3 := kept_cell b1 p3
  replace p4 := kept_cell b1 p4
  replace p5 := kept_cell b1 p5
  replace i0 := kept_cell b1 i0
  replace i1 := kept_cell b1 i1
  replace i2 := kept_cell b1 i2
  replace i3 := kept_cell b1 i3
  replace i4 := kept_cell b1 i4
  replace i5 := kept_cell b1 i5
  replace i6 := kept_cell b1 i6
  replace i7 := kept_cell b1 i7
  replace i8 := kept_cell b1 i8
  replace f0 := kept_cell b1 f0
  replace f1 := kept_cell b1 f1
  replace f2 := kept_cell b1 f2
  replace f3 := kept_cell b1 f3
  replace f4 := kept_cell b1 f4
  replace f5 := kept_cell b1 f5
  clear b1
  cases hk : holdsB ps.length rg cn mn sm mt
  · have F : Hid (fieldsB ps rg cn mn (kd, r, ra, rb, k, args, cost, mt, ip) = false) := hid (by rw [E7.out, show holdsB ps.length rg cn mn sm mt = false from hk]; rfl)
    go_wp2_with fail
    go_ret
    exact ⟨ret_bool F.out.symm, B.out⟩
  have E8 : Hid (fieldsB ps rg cn mn (kd, r, ra, rb, k, args, cost, mt, ip) = argsOk ps rg cn mn sk sg k args) := hid (by rw [E7.out, show holdsB ps.length rg cn mn sm mt = true from hk]; rfl)
  clear hk E7
  go_wp2_with fail
  refine (irArgs_any _ _ _ _ _ _ _ _ _ _ _ _ ps cl ml cf rg _ (HK.out.kept B.out) sr sa sb sk sg sm kd r ra rb k _ _ _ args cost mt ip (HX.out.kept B.out) ?_).mono ?_
  · intro h5
    have h := HSK.out
    rw [h5] at h
    have h' : inB ps.length k = true := h
    simpa [inB] using h'
  rintro e w1 ⟨rfl, b1⟩
  go_wp2_with fail
  go_ret
  exact ⟨ret_bool E8.out.symm, kt B.out b1⟩

end Go.Proofs.YtfnfbebkeoilfaaGreatDoor
