/- Package ir: which code may be (May). Written by irgen.py. -/
import Derived.Test.YtfnfbebkeoilfaaGreatDoorIrG
import Derived.Test.YtfnfbebkeoilfaaGreatDoorIrE
namespace Go.Proofs.YtfnfbebkeoilfaaGreatDoor
open Go.RowKit
set_option linter.unusedVariables false

def regsC (ps : List Fn) (cf rg : Int) : Bool := decide (1 ≤ rg ∧ (ps.getD cf.toNat noFn).2.1 ≤ rg ∧ rg ≤ 64)
def sizeC (cn mn : Nat) : Bool := decide (1 ≤ cn ∧ cn ≤ 256 ∧ mn ≤ 64)
def mayC (ps : List Fn) (cf rg : Int) (cl : List IrT) (ml : List (List PartT)) : Bool := inB ps.length cf && (regsC ps cf rg && (lastB (cf, rg, cl, ml) && (irsB ps (cf, rg, cl, ml) cl.length && ml.all (metaB ps cf rg))))
theorem codeMay_eq (ps : List Fn) (cf rg : Int) (cl : List IrT) (ml : List (List PartT)) : codeMayB ps (cf, rg, cl, ml) = (sizeC cl.length ml.length && (decide (verV ps = 0) && mayC ps cf rg cl ml)) := by
  rw [Bool.eq_iff_iff]
  unfold codeMayB headC sizeC mayC regsC
  simp only [Bool.and_eq_true, decide_eq_true_eq]
  constructor
  · rintro ⟨a, ⟨b, c1, c2, c3, c4, c5, c6⟩, d, e, f⟩; exact ⟨⟨c4, c5, c6⟩, a, b, ⟨c1, c2, c3⟩, f, d, e⟩
  · rintro ⟨⟨c4, c5, c6⟩, a, b, ⟨c1, c2, c3⟩, f, d, e⟩; exact ⟨a, ⟨b, c1, c2, c3, c4, c5, c6⟩, d, e, f⟩

set_option maxRecDepth 100000 in
set_option maxHeartbeats 1000000 in
theorem irNotMeta_any (pa : Option Addr) (pn pc : Nat) (ha : Option Addr) (hn hc : Nat) (ca : Option Addr) (cn cc : Nat) (ma : Option Addr) (mn mc : Nat) (ps : List Fn) (cl : List IrT) (ml : List (List PartT)) (cf rg : Int) (w : World) (K : Chk w pa pn pc ha hn hc ca cn cc ma mn mc ps cl ml) (bc : Nat) (hb : Ckb w bc pa pn pc ha hn hc ca cn cc ma mn mc cf rg) (ta : Option Addr) (tn tc : Nat) (tl : List PartT) (ht : Sl layPart 64 w ta tn tc tl) (hv : verV ps = 0) :
    Calls Tryz.prog 34 #[.agg #[.slice ta tn tc], .pointer (some ⟨bc, 0, none⟩)] w fun e w' => e = .returned (.bool (!metaB ps cf rg tl)) ∧ Below w.heap.size w w' := by
  obtain ⟨c0, c1, c2, c3, c4, c5⟩ := hb
  have z := lt_of_cell c0
  have HK := hid K
  have HT := hid ht
  have HV := hid hv
  clear K ht hv
  go_enter Tryz.func34, Tryz.ntmps34
  go_wp2_with fail
  refine (irMeta_any _ _ _ _ _ _ _ _ _ _ _ _ ps cl ml cf rg _ (HK.out.kept (by go_grown)) _ _ _ tl (HT.out.kept (by go_grown)) HV.out).mono ?_
  rintro e w1 ⟨rfl, b1⟩
  go_wp2_with fail
  go_ret
  exact ⟨rfl, kt (by go_grown) b1⟩

set_option maxRecDepth 100000 in
set_option maxHeartbeats 4000000 in
theorem irMayBe_any (pa : Option Addr) (pn pc : Nat) (ha : Option Addr) (hn hc : Nat) (ca : Option Addr) (cn cc : Nat) (ma : Option Addr) (mn mc : Nat) (ps : List Fn) (cl : List IrT) (ml : List (List PartT)) (cf rg : Int) (w : World) (K : Chk w pa pn pc ha hn hc ca cn cc ma mn mc ps cl ml) (hv : verV ps = 0) (hs : sizeC cn mn = true) :
    Calls Tryz.prog 19 #[.agg #[.slice pa pn pc, .slice ha hn hc, .int .i64 cf, .int .i64 rg, .slice ca cn cc, .slice ma mn mc]] w fun e w' => e = .returned (.bool (mayC ps cf rg cl ml)) ∧ Below w.heap.size w w' := by
  have P : Hid (∀ args w, (callFunc 34 args).run Tryz.prog w = .ok (.enter 34 args) w) := hid (enters_of Tryz.func34 (by kernel_rfl) rfl)
  have HK := hid K
  have HV := hid hv
  have hpr := K.p.room
  have LP := hid K.p.len
  have hs' : 1 ≤ cn ∧ cn ≤ 256 ∧ mn ≤ 64 := by simpa [sizeC] using hs
  have HS := hid hs'
  have E0 : Hid (mayC ps cf rg cl ml = (inB ps.length cf && (regsC ps cf rg && (lastB (cf, rg, cl, ml) && (irsB ps (cf, rg, cl, ml) cn && ml.all (metaB ps cf rg)))))) := hid (by rw [K.c.len]; rfl)
  clear K hv hs hs'
  go_enter Tryz.func19, Tryz.ntmps19
  go_wp2_with fail
  refine (isFunc_any _ _ _ _ _ _ _ _ hpr).mono ?_
  rintro e U ⟨rfl, bU⟩
  have B : Hid (Below w.heap.size w U) := hid (kt (by go_grown) bU)
  have p0 := kept_cell bU (b := w.heap.size) (o := 0) (v := .slice pa pn pc) (by simp [go_sem])
  have p1 := kept_cell bU (b := w.heap.size) (o := 1) (v := .slice ha hn hc) (by simp [go_sem])
  have p2 := kept_cell bU (b := w.heap.size) (o := 2) (v := .int .i64 cf) (by simp [go_sem])
  have p3 := kept_cell bU (b := w.heap.size) (o := 3) (v := .int .i64 rg) (by simp [go_sem])
  have p4 := kept_cell bU (b := w.heap.size) (o := 4) (v := .slice ca cn cc) (by simp [go_sem])
  have p5 := kept_cell bU (b := w.heap.size) (o := 5) (v := .slice ma mn mc) (by simp [go_sem])
  clear bU
  rw [LP.out]
  cases hk : inB ps.length cf
  · have F : Hid (mayC ps cf rg cl ml = false) := hid (by rw [E0.out, hk]; rfl)
    go_wp2_with fail
    go_ret
    exact ⟨ret_bool F.out.symm, B.out⟩
  have E1 : Hid (mayC ps cf rg cl ml = (regsC ps cf rg && (lastB (cf, rg, cl, ml) && (irsB ps (cf, rg, cl, ml) cn && ml.all (metaB ps cf rg))))) := hid (by rw [E0.out, hk]; rfl)
  obtain ⟨f, rfl⟩ : ∃ f : Nat, cf = f := ⟨cf.toNat, by simp [inB] at hk; omega⟩
  have hfn : Hid (f < ps.length) := hid (by simp [inB] at hk; omega)
  clear E0 hk
  go_wp2_with fail
  refine (irRegs_any _ _ _ _ _ _ _ _ _ _ _ _ ps cl ml (f : Int) rg _ (HK.out.kept B.out) f rfl hfn.out).mono ?_
  rintro e w1 ⟨rfl, b1⟩
  replace B := hid (kt B.out b1)
  replace p0 := kept_cell b1 p0
  replace p1 := kept_cell b1 p1
  replace p2 := kept_cell b1 p2
  replace p3 := kept_cell b1 p3
  replace p4 := kept_cell b1 p4
  replace p5 := kept_cell b1 p5
  clear b1
  change Hid (mayC ps (f : Int) rg cl ml = (decide (1 ≤ rg ∧ (ps.getD f noFn).2.1 ≤ rg ∧ rg ≤ 64) && _)) at E1
  cases hk : decide (1 ≤ rg ∧ (ps.getD f noFn).2.1 ≤ rg ∧ rg ≤ 64)
  · have F : Hid (mayC ps (f : Int) rg cl ml = false) := hid (by rw [E1.out, hk]; rfl)
    clear hk
    go_wp2_with fail
    go_ret
    exact ⟨ret_bool F.out.symm, B.out⟩
  have E2 : Hid (mayC ps (f : Int) rg cl ml = (lastB ((f : Int), rg, cl, ml) && (irsB ps ((f : Int), rg, cl, ml) cn && ml.all (metaB ps (f : Int) rg)))) := hid (by rw [E1.out, hk]; rfl)
  clear E1 hk
  go_wp2_with fail
  refine (irEnds_any _ _ _ _ _ _ _ _ _ _ _ _ ps cl ml (f : Int) rg _ (HK.out.kept B.out) HS.out.1 HS.out.2.1).mono ?_
  rintro e w1 ⟨rfl, b1⟩
  replace B := hid (kt B.out b1)
  replace p0 := kept_cell b1 p0
  replace p1 := kept_cell b1 p1
  replace p2 := kept_cell b1 p2
  replace p3 := kept_cell b1 p3
  replace p4 := kept_cell b1 p4
  replace p5 := kept_cell b1 p5
  clear b1
  cases hk : lastB ((f : Int), rg, cl, ml)
  · have F : Hid (mayC ps (f : Int) rg cl ml = false) := hid (by rw [E2.out, hk]; rfl)
    clear hk
    go_wp2_with fail
    go_ret
    exact ⟨ret_bool F.out.symm, B.out⟩
  have E3 : Hid (mayC ps (f : Int) rg cl ml = (irsB ps ((f : Int), rg, cl, ml) cn && ml.all (metaB ps (f : Int) rg))) := hid (by rw [E2.out, hk]; rfl)
  clear E2 hk
  go_wp2_with fail
  refine (irAll_any _ _ _ _ _ _ _ _ _ _ _ _ ps cl ml (f : Int) rg _ (HK.out.kept B.out)).mono ?_
  rintro e w1 ⟨rfl, b1⟩
  replace B := hid (kt B.out b1)
  replace p0 := kept_cell b1 p0
  replace p1 := kept_cell b1 p1
  replace p2 := kept_cell b1 p2
  replace p3 := kept_cell b1 p3
  replace p4 := kept_cell b1 p4
  replace p5 := kept_cell b1 p5
  clear b1
  cases hk : irsB ps ((f : Int), rg, cl, ml) cn
  · have F : Hid (mayC ps (f : Int) rg cl ml = false) := hid (by rw [E3.out, hk]; rfl)
    clear hk
    go_wp2_with fail
    go_ret
    exact ⟨ret_bool F.out.symm, B.out⟩
  have E4 : Hid (mayC ps (f : Int) rg cl ml = ml.all (metaB ps (f : Int) rg)) := hid (by rw [E3.out, hk]; rfl)
  clear E3 hk
  have HB := hid (Ckb.mk p0 p1 p2 p3 p4 p5)
  go_wp2_with fail
  refine (containsMetas_any 34 #[.pointer (some ⟨w.heap.size, 0, none⟩)] P.out (fun x => !metaB ps (f : Int) rg x) _ _ _ ml _ (HK.out.m.kept B.out) (fun ta tn tc tl w' bw ht => irNotMeta_any _ _ _ _ _ _ _ _ _ _ _ _ ps cl ml (f : Int) rg _ (HK.out.kept (kt B.out bw)) _ (HB.out.kept bw) ta tn tc tl ht HV.out)).mono ?_
  rintro e w1 ⟨rfl, b1⟩
  go_wp2_with fail
  go_ret
  exact ⟨ret_bool (by rw [E4.out, List.all_eq_not_any_not]), kt B.out b1⟩

set_option maxRecDepth 100000 in
set_option maxHeartbeats 4000000 in
theorem irMay_any (pa : Option Addr) (pn pc : Nat) (ca : Option Addr) (cn cc : Nat) (ma : Option Addr) (mn mc : Nat) (ps : List Fn) (cl : List IrT) (ml : List (List PartT)) (cf rg : Int) (w : World) (hp : Fns w pa pn pc ps) (hcl : Sl layIr 88 w ca cn cc cl) (hml : Sl layMeta 24 w ma mn mc ml) (ld : Ld w) :
    Calls Tryz.prog 7 #[.agg #[.slice pa pn pc], .agg #[.int .i64 cf, .int .i64 rg, .slice ca cn cc, .slice ma mn mc]] w fun e w' => e = .returned (.bool (codeMayB ps (cf, rg, cl, ml))) ∧ Below w.heap.size w w' := by
  have HP := hid hp
  have HC := hid hcl
  have HM := hid hml
  have LD := hid ld
  have hcr := hcl.room
  have hmr := hml.room
  have E : Hid (codeMayB ps (cf, rg, cl, ml) = (sizeC cn mn && (decide (verV ps = 0) && mayC ps cf rg cl ml))) := hid (by rw [hcl.len, hml.len]; exact codeMay_eq ps cf rg cl ml)
  clear hp hcl hml ld
  go_enter Tryz.func7, Tryz.ntmps7
  go_wp2_with fail
  refine (irSize_any _ _ _ _ _ _ cf rg _ hcr hmr).mono ?_
  rintro e U ⟨rfl, bU⟩
  have B : Hid (Below w.heap.size w U) := hid (kt (by go_grown) bU)
  have q0 := kept_cell bU (b := w.heap.size) (o := 0) (v := .slice pa pn pc) (by simp [go_sem])
  have d0 := kept_cell bU (b := w.heap.size + 1) (o := 0) (v := .int .i64 cf) (by simp [go_sem])
  have d1 := kept_cell bU (b := w.heap.size + 1) (o := 1) (v := .int .i64 rg) (by simp [go_sem])
  have d2 := kept_cell bU (b := w.heap.size + 1) (o := 2) (v := .slice ca cn cc) (by simp [go_sem])
  have d3 := kept_cell bU (b := w.heap.size + 1) (o := 3) (v := .slice ma mn mc) (by simp [go_sem])
  clear bU
  rw [show decide (1 ≤ cn ∧ cn ≤ 256 ∧ mn ≤ 64) = sizeC cn mn from rfl]
  cases hs : sizeC cn mn
  · replace E : Hid (codeMayB ps (cf, rg, cl, ml) = false) := hid (by rw [E.out, hs]; rfl)
    go_wp2_with fail
    go_ret
    exact ⟨ret_bool E.out.symm, B.out⟩
  replace E : Hid (codeMayB ps (cf, rg, cl, ml) = (decide (verV ps = 0) && mayC ps cf rg cl ml)) := hid (by rw [E.out, hs]; rfl)
  have HS := hid hs
  clear hs
  go_wp2_with fail
  refine (callsOf_any _ _ _ ps _ (HP.out.kept B.out) (LD.out.up B.out)).mono ?_
  rintro e V ⟨bV, ⟨hv, ha, hn, hc, rfl, hh⟩ | ⟨hv, a1, n1, c1, a2, n2, c2, rfl⟩⟩
  · replace B := hid (kt B.out bV)
    replace q0 := kept_cell bV q0
    replace d0 := kept_cell bV d0
    replace d1 := kept_cell bV d1
    replace d2 := kept_cell bV d2
    replace d3 := kept_cell bV d3
    have HH := hid hh
    have HV := hid hv
    replace E : Hid (codeMayB ps (cf, rg, cl, ml) = mayC ps cf rg cl ml) := hid (by rw [E.out, decide_eq_true hv]; rfl)
    clear bV hh hv
    have z1 := lt_of_cell d0
    go_wp2_with fail
    refine (irMayBe_any _ _ _ _ _ _ _ _ _ _ _ _ ps cl ml cf rg _ ⟨HP.out.kept (kt B.out (by go_grown)), HH.out.kept (by go_grown), HC.out.kept (kt B.out (by go_grown)), HM.out.kept (kt B.out (by go_grown))⟩ HV.out HS.out).mono ?_
    rintro e w1 ⟨rfl, b1⟩
    go_wp2_with fail
    go_ret
    exact ⟨ret_bool E.out.symm, kt B.out (kt (by go_grown) b1)⟩
  · replace E : Hid (codeMayB ps (cf, rg, cl, ml) = false) := hid (by rw [E.out, decide_eq_false hv]; rfl)
    replace B := hid (kt B.out bV)
    replace q0 := kept_cell bV q0
    replace d0 := kept_cell bV d0
    replace d1 := kept_cell bV d1
    replace d2 := kept_cell bV d2
    replace d3 := kept_cell bV d3
    clear bV hv
    go_wp2_with fail
    go_ret
    exact ⟨ret_bool E.out.symm, kt B.out (by go_grown)⟩

end Go.Proofs.YtfnfbebkeoilfaaGreatDoor
