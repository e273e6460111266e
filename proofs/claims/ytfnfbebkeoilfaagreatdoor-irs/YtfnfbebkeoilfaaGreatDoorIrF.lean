/- Package ir: metas: their sources, their parts. Written by irgen.py. -/
import Derived.Test.YtfnfbebkeoilfaaGreatDoorIrC
import Derived.Test.YtfnfbebkeoilfaaGreatDoorCallsC
import Derived.Test.YtfnfbebkeoilfaaGreatDoorWpName
import Derived.Deep.DeepCutAuto
namespace Go.Proofs.YtfnfbebkeoilfaaGreatDoor
open Go.RowKit
set_option linter.unusedVariables false

/-- A part that runs, one that waits; a meta: as the project asks it. -/
def runP (ps : List Fn) (rg : Int) (x : PartT) : Bool := runB ps x.1 x.2.1 x.2.2.1.length x.2.2.2.length && (x.2.2.1.all (srcB rg) && x.2.2.2.all (srcB rg))
def waitP (ps : List Fn) (rg : Int) (x : PartT) (called : Int) : Bool := waitsB ps x.1 x.2.1 x.2.2.1.length x.2.2.2.length called && (x.2.2.1.all (srcB rg) && x.2.2.2.all (srcB rg))
theorem runP_eq (ps : List Fn) (rg : Int) (x : PartT) : runP ps rg x = partB ps rg 0 x := by
  rw [Bool.eq_iff_iff]
  unfold runP partB runB srcsB
  simp only [Bool.and_eq_true, decide_eq_true_eq, Int.sub_zero]
  constructor
  · rintro ⟨⟨a, b, c⟩, d, e⟩; exact ⟨a, ⟨d, b⟩, e, c⟩
  · rintro ⟨a, ⟨d, b⟩, e, c⟩; exact ⟨⟨a, b, c⟩, d, e⟩
theorem waitP_eq (ps : List Fn) (rg : Int) (x : PartT) (called : Int) : waitP ps rg x called = (partB ps rg 1 x && behindB ps x.1 x.2.1 called) := by
  rw [Bool.eq_iff_iff]
  unfold waitP waitsB partB runB srcsB behindB callB isCallB
  simp only [Bool.and_eq_true, decide_eq_true_eq]
  constructor
  · rintro ⟨⟨⟨a, b, c⟩, f, g⟩, d, e⟩; exact ⟨⟨a, ⟨d, b⟩, e, by omega⟩, f, g⟩
  · rintro ⟨⟨a, ⟨d, b⟩, e, c⟩, f, g⟩; exact ⟨⟨⟨a, b, by omega⟩, f, g⟩, d, e⟩

set_option maxRecDepth 100000 in
set_option maxHeartbeats 1000000 in
theorem irSrc_any (pa : Option Addr) (pn pc : Nat) (ha : Option Addr) (hn hc : Nat) (ca : Option Addr) (cn cc : Nat) (ma : Option Addr) (mn mc : Nat) (ps : List Fn) (cl : List IrT) (ml : List (List PartT)) (cf rg : Int) (w : World) (K : Chk w pa pn pc ha hn hc ca cn cc ma mn mc ps cl ml) (k : Bool) (v : Int) :
    Calls Tryz.prog 105 #[.agg #[.slice pa pn pc, .slice ha hn hc, .int .i64 cf, .int .i64 rg, .slice ca cn cc, .slice ma mn mc], .agg #[.bool k, .int .i64 v]] w fun e w' => e = .returned (.bool (srcB rg (k, v))) ∧ Below w.heap.size w w' := by
  have HK := hid K
  clear K
  cases k
  · go_enter Tryz.func105, Tryz.ntmps105
    go_wp2_with fail
    refine (irHolds_any _ _ _ _ _ _ _ _ _ _ _ _ ps cl ml cf rg _ (HK.out.kept (by go_grown)) 1 v).mono ?_
    rintro e w1 ⟨rfl, b1⟩
    go_wp2_with fail
    go_ret
    exact ⟨ret_bool rfl, kt (by go_grown) b1⟩
  · go_enter Tryz.func105, Tryz.ntmps105
    go_wp2_with fail
    refine (irHolds_any _ _ _ _ _ _ _ _ _ _ _ _ ps cl ml cf rg _ (HK.out.kept (by go_grown)) 2 v).mono ?_
    rintro e w1 ⟨rfl, b1⟩
    go_wp2_with fail
    go_ret
    exact ⟨ret_bool rfl, kt (by go_grown) b1⟩

set_option maxRecDepth 100000 in
set_option maxHeartbeats 1000000 in
theorem irNotSrc_any (pa : Option Addr) (pn pc : Nat) (ha : Option Addr) (hn hc : Nat) (ca : Option Addr) (cn cc : Nat) (ma : Option Addr) (mn mc : Nat) (ps : List Fn) (cl : List IrT) (ml : List (List PartT)) (cf rg : Int) (w : World) (K : Chk w pa pn pc ha hn hc ca cn cc ma mn mc ps cl ml) (bc : Nat) (hb : Ckb w bc pa pn pc ha hn hc ca cn cc ma mn mc cf rg) (k : Bool) (v : Int) :
    Calls Tryz.prog 104 #[.agg #[.bool k, .int .i64 v], .pointer (some ⟨bc, 0, none⟩)] w fun e w' => e = .returned (.bool (!srcB rg (k, v))) ∧ Below w.heap.size w w' := by
  obtain ⟨c0, c1, c2, c3, c4, c5⟩ := hb
  have z := lt_of_cell c0
  have HK := hid K
  clear K
  go_enter Tryz.func104, Tryz.ntmps104
  go_wp2_with fail
  refine (irSrc_any _ _ _ _ _ _ _ _ _ _ _ _ ps cl ml cf rg _ (HK.out.kept (by go_grown)) k v).mono ?_
  rintro e w1 ⟨rfl, b1⟩
  go_wp2_with fail
  go_ret
  exact ⟨rfl, kt (by go_grown) b1⟩

set_option maxRecDepth 100000 in
set_option maxHeartbeats 1000000 in
theorem irSrcs_any (pa : Option Addr) (pn pc : Nat) (ha : Option Addr) (hn hc : Nat) (ca : Option Addr) (cn cc : Nat) (ma : Option Addr) (mn mc : Nat) (ps : List Fn) (cl : List IrT) (ml : List (List PartT)) (cf rg : Int) (w : World) (K : Chk w pa pn pc ha hn hc ca cn cc ma mn mc ps cl ml) (la : Option Addr) (ln lc : Nat) (ll : List SrcT) (hl : Sl laySrcs 16 w la ln lc ll) :
    Calls Tryz.prog 85 #[.agg #[.slice pa pn pc, .slice ha hn hc, .int .i64 cf, .int .i64 rg, .slice ca cn cc, .slice ma mn mc], .slice la ln lc] w fun e w' => e = .returned (.bool (ll.all (srcB rg))) ∧ Below w.heap.size w w' := by
  have P : Hid (∀ args w, (callFunc 104 args).run Tryz.prog w = .ok (.enter 104 args) w) := hid (enters_of Tryz.func104 (by kernel_rfl) rfl)
  have HK := hid K
  have HL := hid hl
  clear K hl
  go_enter Tryz.func85, Tryz.ntmps85
  go_wp2_with fail
  refine (containsSrcs_any 104 #[.pointer (some ⟨w.heap.size, 0, none⟩)] P.out (fun x => !srcB rg x) _ _ _ ll _ (HL.out.kept (by go_grown)) (fun k v w' bw => irNotSrc_any _ _ _ _ _ _ _ _ _ _ _ _ ps cl ml cf rg _ (HK.out.kept (kt (by go_grown) bw)) _ (Ckb.kept ⟨by simp [go_sem], by simp [go_sem], by simp [go_sem], by simp [go_sem], by simp [go_sem], by simp [go_sem]⟩ bw) k v)).mono ?_
  rintro e w1 ⟨rfl, b1⟩
  go_wp2_with fail
  go_ret
  exact ⟨ret_bool (by rw [List.all_eq_not_any_not]), kt (by go_grown) b1⟩

set_option maxRecDepth 100000 in
set_option maxHeartbeats 1000000 in
theorem irHasSrcs_any (pa : Option Addr) (pn pc : Nat) (ha : Option Addr) (hn hc : Nat) (ca : Option Addr) (cn cc : Nat) (ma : Option Addr) (mn mc : Nat) (ps : List Fn) (cl : List IrT) (ml : List (List PartT)) (cf rg : Int) (w : World) (K : Chk w pa pn pc ha hn hc ca cn cc ma mn mc ps cl ml) (fn x : Int) (la : Option Addr) (ln lc : Nat) (ll : List SrcT) (sa : Option Addr) (sn sc : Nat) (sl : List SrcT) (hl : Sl laySrcs 16 w la ln lc ll) (hs : Sl laySrcs 16 w sa sn sc sl) :
    Calls Tryz.prog 67 #[.agg #[.slice pa pn pc, .slice ha hn hc, .int .i64 cf, .int .i64 rg, .slice ca cn cc, .slice ma mn mc], .agg #[.int .i64 fn, .int .i64 x, .slice la ln lc, .slice sa sn sc]] w fun e w' => e = .returned (.bool (ll.all (srcB rg) && sl.all (srcB rg))) ∧ Below w.heap.size w w' := by
  have HK := hid K
  have HL := hid hl
  have HS := hid hs
  clear K hl hs
  go_enter Tryz.func67, Tryz.ntmps67
  go_wp2_with fail
  refine (irSrcs_any _ _ _ _ _ _ _ _ _ _ _ _ ps cl ml cf rg _ (HK.out.kept (by go_grown)) _ _ _ ll (HL.out.kept (by go_grown))).mono ?_
  rintro e U ⟨rfl, bU⟩
  have B : Hid (Below w.heap.size w U) := hid (kt (by go_grown) bU)
  have p0 := kept_cell bU (b := w.heap.size) (o := 0) (v := .slice pa pn pc) (by simp [go_sem])
  have p1 := kept_cell bU (b := w.heap.size) (o := 1) (v := .slice ha hn hc) (by simp [go_sem])
  have p2 := kept_cell bU (b := w.heap.size) (o := 2) (v := .int .i64 cf) (by simp [go_sem])
  have p3 := kept_cell bU (b := w.heap.size) (o := 3) (v := .int .i64 rg) (by simp [go_sem])
  have p4 := kept_cell bU (b := w.heap.size) (o := 4) (v := .slice ca cn cc) (by simp [go_sem])
  have p5 := kept_cell bU (b := w.heap.size) (o := 5) (v := .slice ma mn mc) (by simp [go_sem])
  have q0 := kept_cell bU (b := w.heap.size + 1) (o := 0) (v := .int .i64 fn) (by simp [go_sem])
  have q1 := kept_cell bU (b := w.heap.size + 1) (o := 1) (v := .int .i64 x) (by simp [go_sem])
  have q2 := kept_cell bU (b := w.heap.size + 1) (o := 2) (v := .slice la ln lc) (by simp [go_sem])
  have q3 := kept_cell bU (b := w.heap.size + 1) (o := 3) (v := .slice sa sn sc) (by simp [go_sem])
  clear bU
  have E : Hid (∀ b, ll.all (srcB rg) = b → (ll.all (srcB rg) && sl.all (srcB rg)) = (b && sl.all (srcB rg))) := hid (fun b h => by rw [h])
  cases h : ll.all (srcB rg)
  · replace E := hid (E.out _ h)
    clear h
    go_wp2_with fail
    go_ret
    exact ⟨ret_bool E.out.symm, B.out⟩
  · replace E := hid (E.out _ h)
    clear h
    go_wp2_with fail
    refine (irSrcs_any _ _ _ _ _ _ _ _ _ _ _ _ ps cl ml cf rg _ (HK.out.kept B.out) _ _ _ sl (HS.out.kept B.out)).mono ?_
    rintro e w1 ⟨rfl, b1⟩
    go_wp2_with fail
    go_ret
    exact ⟨ret_bool E.out.symm, kt B.out b1⟩

set_option maxRecDepth 100000 in
set_option maxHeartbeats 2000000 in
theorem irRuns_any (pa : Option Addr) (pn pc : Nat) (ha : Option Addr) (hn hc : Nat) (ca : Option Addr) (cn cc : Nat) (ma : Option Addr) (mn mc : Nat) (ps : List Fn) (cl : List IrT) (ml : List (List PartT)) (cf rg : Int) (w : World) (K : Chk w pa pn pc ha hn hc ca cn cc ma mn mc ps cl ml) (fn x : Int) (la : Option Addr) (ln lc : Nat) (ll : List SrcT) (sa : Option Addr) (sn sc : Nat) (sl : List SrcT) (hl : Sl laySrcs 16 w la ln lc ll) (hs : Sl laySrcs 16 w sa sn sc sl) (hv : verV ps = 0) :
    Calls Tryz.prog 53 #[.agg #[.slice pa pn pc, .slice ha hn hc, .int .i64 cf, .int .i64 rg, .slice ca cn cc, .slice ma mn mc], .agg #[.int .i64 fn, .int .i64 x, .slice la ln lc, .slice sa sn sc]] w fun e w' => e = .returned (.bool (runP ps rg (fn, x, ll, sl))) ∧ Below w.heap.size w w' := by
  have HK := hid K
  have HL := hid hl
  have HS := hid hs
  have hlr := hl.room
  have hsr := hs.room
  have HV := hid hv
  have E : Hid (runP ps rg (fn, x, ll, sl) = (runB ps fn x ln sn && (ll.all (srcB rg) && sl.all (srcB rg)))) := hid (by rw [hl.len, hs.len]; rfl)
  clear K hl hs hv
  go_enter Tryz.func53, Tryz.ntmps53
  go_wp2_with fail
  refine (tabRuns_any _ _ _ _ _ _ ps fn x ln sn _ (HK.out.p.kept (by go_grown)) (HK.out.h.kept (by go_grown)) HV.out).mono ?_
  rintro e U ⟨rfl, bU⟩
  have B : Hid (Below w.heap.size w U) := hid (kt (by go_grown) bU)
  have p0 := kept_cell bU (b := w.heap.size) (o := 0) (v := .slice pa pn pc) (by simp [go_sem])
  have p1 := kept_cell bU (b := w.heap.size) (o := 1) (v := .slice ha hn hc) (by simp [go_sem])
  have p2 := kept_cell bU (b := w.heap.size) (o := 2) (v := .int .i64 cf) (by simp [go_sem])
  have p3 := kept_cell bU (b := w.heap.size) (o := 3) (v := .int .i64 rg) (by simp [go_sem])
  have p4 := kept_cell bU (b := w.heap.size) (o := 4) (v := .slice ca cn cc) (by simp [go_sem])
  have p5 := kept_cell bU (b := w.heap.size) (o := 5) (v := .slice ma mn mc) (by simp [go_sem])
  have q0 := kept_cell bU (b := w.heap.size + 1) (o := 0) (v := .int .i64 fn) (by simp [go_sem])
  have q1 := kept_cell bU (b := w.heap.size + 1) (o := 1) (v := .int .i64 x) (by simp [go_sem])
  have q2 := kept_cell bU (b := w.heap.size + 1) (o := 2) (v := .slice la ln lc) (by simp [go_sem])
  have q3 := kept_cell bU (b := w.heap.size + 1) (o := 3) (v := .slice sa sn sc) (by simp [go_sem])
  clear bU
  cases h : runB ps fn x ln sn
  · have F : Hid (runP ps rg (fn, x, ll, sl) = false) := hid (by rw [E.out, h]; rfl)
    clear h
    go_wp2_with fail
    go_ret
    exact ⟨ret_bool F.out.symm, B.out⟩
  · have F : Hid (runP ps rg (fn, x, ll, sl) = (ll.all (srcB rg) && sl.all (srcB rg))) := hid (by rw [E.out, h]; rfl)
    clear h
    go_wp2_with fail
    refine (irHasSrcs_any _ _ _ _ _ _ _ _ _ _ _ _ ps cl ml cf rg _ (HK.out.kept B.out) fn x _ _ _ ll _ _ _ sl (HL.out.kept B.out) (HS.out.kept B.out)).mono ?_
    rintro e w1 ⟨rfl, b1⟩
    go_wp2_with fail
    go_ret
    exact ⟨ret_bool F.out.symm, kt B.out b1⟩

set_option maxRecDepth 100000 in
set_option maxHeartbeats 2000000 in
theorem irWaits_any (pa : Option Addr) (pn pc : Nat) (ha : Option Addr) (hn hc : Nat) (ca : Option Addr) (cn cc : Nat) (ma : Option Addr) (mn mc : Nat) (ps : List Fn) (cl : List IrT) (ml : List (List PartT)) (cf rg : Int) (w : World) (K : Chk w pa pn pc ha hn hc ca cn cc ma mn mc ps cl ml) (fn x : Int) (la : Option Addr) (ln lc : Nat) (ll : List SrcT) (sa : Option Addr) (sn sc : Nat) (sl : List SrcT) (called : Int) (hl : Sl laySrcs 16 w la ln lc ll) (hs : Sl laySrcs 16 w sa sn sc sl) (hv : verV ps = 0) :
    Calls Tryz.prog 54 #[.agg #[.slice pa pn pc, .slice ha hn hc, .int .i64 cf, .int .i64 rg, .slice ca cn cc, .slice ma mn mc], .agg #[.int .i64 fn, .int .i64 x, .slice la ln lc, .slice sa sn sc], .int .i64 called] w fun e w' => e = .returned (.bool (waitP ps rg (fn, x, ll, sl) called)) ∧ Below w.heap.size w w' := by
  have HK := hid K
  have HL := hid hl
  have HS := hid hs
  have hlr := hl.room
  have hsr := hs.room
  have HV := hid hv
  have E : Hid (waitP ps rg (fn, x, ll, sl) called = (waitsB ps fn x ln sn called && (ll.all (srcB rg) && sl.all (srcB rg)))) := hid (by rw [hl.len, hs.len]; rfl)
  clear K hl hs hv
  go_enter Tryz.func54, Tryz.ntmps54
  go_wp2_with fail
  refine (tabWaits_any _ _ _ _ _ _ ps fn x ln sn called _ (HK.out.p.kept (by go_grown)) (HK.out.h.kept (by go_grown)) HV.out (by omega) (by omega)).mono ?_
  rintro e U ⟨rfl, bU⟩
  have B : Hid (Below w.heap.size w U) := hid (kt (by go_grown) bU)
  have p0 := kept_cell bU (b := w.heap.size) (o := 0) (v := .slice pa pn pc) (by simp [go_sem])
  have p1 := kept_cell bU (b := w.heap.size) (o := 1) (v := .slice ha hn hc) (by simp [go_sem])
  have p2 := kept_cell bU (b := w.heap.size) (o := 2) (v := .int .i64 cf) (by simp [go_sem])
  have p3 := kept_cell bU (b := w.heap.size) (o := 3) (v := .int .i64 rg) (by simp [go_sem])
  have p4 := kept_cell bU (b := w.heap.size) (o := 4) (v := .slice ca cn cc) (by simp [go_sem])
  have p5 := kept_cell bU (b := w.heap.size) (o := 5) (v := .slice ma mn mc) (by simp [go_sem])
  have q0 := kept_cell bU (b := w.heap.size + 1) (o := 0) (v := .int .i64 fn) (by simp [go_sem])
  have q1 := kept_cell bU (b := w.heap.size + 1) (o := 1) (v := .int .i64 x) (by simp [go_sem])
  have q2 := kept_cell bU (b := w.heap.size + 1) (o := 2) (v := .slice la ln lc) (by simp [go_sem])
  have q3 := kept_cell bU (b := w.heap.size + 1) (o := 3) (v := .slice sa sn sc) (by simp [go_sem])
  clear bU
  cases h : waitsB ps fn x ln sn called
  · have F : Hid (waitP ps rg (fn, x, ll, sl) called = false) := hid (by rw [E.out, h]; rfl)
    clear h
    go_wp2_with fail
    go_ret
    exact ⟨ret_bool F.out.symm, B.out⟩
  · have F : Hid (waitP ps rg (fn, x, ll, sl) called = (ll.all (srcB rg) && sl.all (srcB rg))) := hid (by rw [E.out, h]; rfl)
    clear h
    go_wp2_with fail
    refine (irHasSrcs_any _ _ _ _ _ _ _ _ _ _ _ _ ps cl ml cf rg _ (HK.out.kept B.out) fn x _ _ _ ll _ _ _ sl (HL.out.kept B.out) (HS.out.kept B.out)).mono ?_
    rintro e w1 ⟨rfl, b1⟩
    go_wp2_with fail
    go_ret
    exact ⟨ret_bool F.out.symm, kt B.out b1⟩

end Go.Proofs.YtfnfbebkeoilfaaGreatDoor
