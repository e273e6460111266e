/- Package ir: as many arguments as K asks for; the fields of an instruction. Written by irgen.py. -/
import Derived.Test.YtfnfbebkeoilfaaGreatDoorIrB
import Derived.Test.YtfnfbebkeoilfaaGreatDoorPick
namespace Go.Proofs.YtfnfbebkeoilfaaGreatDoor
open Go.RowKit
set_option linter.unusedVariables false

/-- A checker in a block of its own. -/
structure Ckb (w : World) (b : Nat) (pa : Option Addr) (pn pc : Nat) (ha : Option Addr) (hn hc : Nat) (ca : Option Addr) (cn cc : Nat) (ma : Option Addr) (mn mc : Nat) (cf rg : Int) : Prop where
  c0 : w.cell? ⟨b, 0, none⟩ = some (.slice pa pn pc)
  c1 : w.cell? ⟨b, 1, none⟩ = some (.slice ha hn hc)
  c2 : w.cell? ⟨b, 2, none⟩ = some (.int .i64 cf)
  c3 : w.cell? ⟨b, 3, none⟩ = some (.int .i64 rg)
  c4 : w.cell? ⟨b, 4, none⟩ = some (.slice ca cn cc)
  c5 : w.cell? ⟨b, 5, none⟩ = some (.slice ma mn mc)
theorem Ckb.kept {w w' : World} {b : Nat} {pa : Option Addr} {pn pc : Nat} {ha : Option Addr} {hn hc : Nat} {ca : Option Addr} {cn cc : Nat} {ma : Option Addr} {mn mc : Nat} {cf rg : Int} (h : Ckb w b pa pn pc ha hn hc ca cn cc ma mn mc cf rg) (hb : Below w.heap.size w w') : Ckb w' b pa pn pc ha hn hc ca cn cc ma mn mc cf rg :=
  ⟨kept_cell hb h.c0, kept_cell hb h.c1, kept_cell hb h.c2, kept_cell hb h.c3, kept_cell hb h.c4, kept_cell hb h.c5⟩

set_option maxRecDepth 100000 in
set_option maxHeartbeats 1000000 in
theorem irNotArg_any (pa : Option Addr) (pn pc : Nat) (ha : Option Addr) (hn hc : Nat) (ca : Option Addr) (cn cc : Nat) (ma : Option Addr) (mn mc : Nat) (ps : List Fn) (cl : List IrT) (ml : List (List PartT)) (cf rg : Int) (w : World) (K : Chk w pa pn pc ha hn hc ca cn cc ma mn mc ps cl ml) (bc bf : Nat) (sg x : Int) (hb : Ckb w bc pa pn pc ha hn hc ca cn cc ma mn mc cf rg) (h4 : w.cell? ⟨bf, 4, none⟩ = some (.int .i64 sg)) :
    Calls Tryz.prog 83 #[.int .i64 x, .pointer (some ⟨bc, 0, none⟩), .pointer (some ⟨bf, 0, none⟩)] w fun e w' => e = .returned (.bool (!holdsB ps.length rg cn mn sg x)) ∧ Below w.heap.size w w' := by
  obtain ⟨c0, c1, c2, c3, c4, c5⟩ := hb
  have HK := hid K
  clear K
  go_enter Tryz.func83, Tryz.ntmps83
  go_wp2_with fail
  refine (irHolds_any _ _ _ _ _ _ _ _ _ _ _ _ ps cl ml cf rg _ (HK.out.kept (Below.refl _ _)) sg x).mono ?_
  rintro e w1 ⟨rfl, b1⟩
  go_wp2_with fail
  go_ret
  exact ⟨rfl, b1⟩

set_option maxRecDepth 100000 in
set_option maxHeartbeats 4000000 in
theorem irArgs_any (pa : Option Addr) (pn pc : Nat) (ha : Option Addr) (hn hc : Nat) (ca : Option Addr) (cn cc : Nat) (ma : Option Addr) (mn mc : Nat) (ps : List Fn) (cl : List IrT) (ml : List (List PartT)) (cf rg : Int) (w : World) (K : Chk w pa pn pc ha hn hc ca cn cc ma mn mc ps cl ml) (sr sa sb sk sg sm kd r ra rb k : Int) (xa : Option Addr) (xn xc : Nat) (args : List Int) (cost mt ip : Int) (hx : Ints w xa xn xc args) (hk : sk = 5 → 0 ≤ k ∧ k < ps.length) :
    Calls Tryz.prog 65 #[.agg #[.slice pa pn pc, .slice ha hn hc, .int .i64 cf, .int .i64 rg, .slice ca cn cc, .slice ma mn mc], .agg #[.int .i64 sr, .int .i64 sa, .int .i64 sb, .int .i64 sk, .int .i64 sg, .int .i64 sm], .agg #[.int .i64 kd, .int .i64 r, .int .i64 ra, .int .i64 rb, .int .i64 k, .slice xa xn xc, .int .i64 cost, .int .i64 mt, .int .i64 ip]] w fun e w' => e = .returned (.bool (argsOk ps rg cn mn sk sg k args)) ∧ Below w.heap.size w w' := by
  have P : Hid (∀ args w, (callFunc 83 args).run Tryz.prog w = .ok (.enter 83 args) w) := hid (enters_of Tryz.func83 (by kernel_rfl) rfl)
  have HK := hid K
  have LP := hid K.p.len
  have LX := hid hx.len
  have hxr := hx.room
  have HX := hid hx
  clear K hx
  have closing : ∀ (U : World) (n : Int), Hid (Below w.heap.size w U) → Hid (n = if sk = 5 then (ps.getD k.toNat noFn).1 else 0) → True := fun _ _ _ _ => trivial
  clear closing
  by_cases h5 : sk = 5
  · obtain ⟨kn, rfl⟩ : ∃ kn : Nat, k = kn := ⟨k.toNat, by have := hk h5; omega⟩
    have hkn : kn < ps.length := by have := hk h5; omega
    subst h5
    clear hk
    go_enter Tryz.func65, Tryz.ntmps65
    go_wp2_with fail
    refine (tabFunc_any _ _ _ _ _ _ ps kn _ (HK.out.p.kept (by go_grown)) (by rw [LP.out]; exact hkn)).mono ?_
    rintro e U ⟨gx, gy, fa, fn, fc, fl, rfl, e3, -, bU⟩
    have B : Hid (Below w.heap.size w U) := hid (kt (by go_grown) bU)
    have p0 := kept_cell bU (b := w.heap.size) (o := 0) (v := .slice pa pn pc) (by simp [go_sem])
    have p1 := kept_cell bU (b := w.heap.size) (o := 1) (v := .slice ha hn hc) (by simp [go_sem])
    have p2 := kept_cell bU (b := w.heap.size) (o := 2) (v := .int .i64 cf) (by simp [go_sem])
    have p3 := kept_cell bU (b := w.heap.size) (o := 3) (v := .int .i64 rg) (by simp [go_sem])
    have p4 := kept_cell bU (b := w.heap.size) (o := 4) (v := .slice ca cn cc) (by simp [go_sem])
    have p5 := kept_cell bU (b := w.heap.size) (o := 5) (v := .slice ma mn mc) (by simp [go_sem])
    have q4 := kept_cell bU (b := w.heap.size + 1) (o := 4) (v := .int .i64 sg) (by simp [go_sem])
    have i5 := kept_cell bU (b := w.heap.size + 1 + 1) (o := 5) (v := .slice xa xn xc) (by simp [go_sem])
    have HB := hid (Ckb.mk p0 p1 p2 p3 p4 p5)
    have Q4 := hid q4
    have E : Hid (argsOk ps rg cn mn 5 sg (kn : Int) args = (decide ((xn : Int) = gx) && args.all (holdsB ps.length rg cn mn sg))) := hid (by unfold argsOk; rw [if_pos rfl, Int.toNat_natCast, e3, LX.out])
    have fd := Tryz.fieldArgs gx gy fa fn fc
    clear bU e3
    by_cases hg : (xn : Int) = gx
    · subst hg
      go_wp2_with fail
      refine (containsInts_any 83 #[.pointer (some ⟨w.heap.size, 0, none⟩), .pointer (some ⟨w.heap.size + 1, 0, none⟩)] P.out (fun x => !holdsB ps.length rg cn mn sg x) _ _ _ args _ (HX.out.kept B.out) (fun x w' bw => irNotArg_any _ _ _ _ _ _ _ _ _ _ _ _ ps cl ml cf rg _ (HK.out.kept (kt B.out bw)) _ _ sg x (HB.out.kept bw) (kept_cell bw Q4.out))).mono ?_
      rintro e w1 ⟨rfl, b1⟩
      go_wp2_with fail
      go_ret
      exact ⟨ret_bool (by rw [E.out, List.all_eq_not_any_not]; simp), kt B.out b1⟩
    · have hg' : ((xn : Int) == gx) = false := by simpa using hg
      go_wp2_with fail
      go_ret
      exact ⟨ret_bool (by rw [E.out]; simp [hg]), B.out⟩
  · have h5' : (sk == 5) = false := by simpa using h5
    have E : Hid (argsOk ps rg cn mn sk sg k args = (decide ((xn : Int) = 0) && args.all (holdsB ps.length rg cn mn sg))) := hid (by unfold argsOk; rw [if_neg h5, LX.out])
    clear hk h5
    go_enter Tryz.func65, Tryz.ntmps65
    by_cases hg : xn = 0
    · subst hg
      go_wp2_with fail
      refine (containsInts_any 83 #[.pointer (some ⟨w.heap.size, 0, none⟩), .pointer (some ⟨w.heap.size + 1, 0, none⟩)] P.out (fun x => !holdsB ps.length rg cn mn sg x) _ _ _ args _ (HX.out.kept (by go_grown)) (fun x w' bw => irNotArg_any _ _ _ _ _ _ _ _ _ _ _ _ ps cl ml cf rg _ (HK.out.kept (kt (by go_grown) bw)) _ _ sg x (Ckb.kept ⟨by simp [go_sem], by simp [go_sem], by simp [go_sem], by simp [go_sem], by simp [go_sem], by simp [go_sem]⟩ bw) (kept_cell bw (by simp [go_sem])))).mono ?_
      rintro e w1 ⟨rfl, b1⟩
      go_wp2_with fail
      go_ret
      exact ⟨ret_bool (by rw [E.out, List.all_eq_not_any_not]; simp), kt (by go_grown) b1⟩
    · have hg' : ((xn : Int) == 0) = false := by simp; omega
      go_wp2_with fail
      go_ret
      exact ⟨ret_bool (by rw [E.out]; simp [hg]), by go_grown⟩

end Go.Proofs.YtfnfbebkeoilfaaGreatDoor
