/- Register code as it lies in memory. (Written ahead of a seat that has its types: not yet built.) -/
import Derived.Test.YtaimpljkbpnigaaGreatDoorFlatSrcs
import Derived.Test.YtaimpljkbpnigaaGreatDoorJ10g
import Derived.Test.YtaimpljkbpnigaaGreatDoorJ9a
namespace Go.Proofs.YtaimpljkbpnigaaGreatDoor
open Go.RowKit
set_option linter.unusedVariables false

def layPart : Lay PartT := layP layI (layP layI (layP (layS 63 16 laySrcs) (layS 63 16 laySrcs)))
def layMeta : Lay (List PartT) := layS 60 64 layPart
def layIr : Lay IrT := layP layI (layP layI (layP layI (layP layI (layP layI (layP (layS 3 8 layI) (layP layI (layP layI layI)))))))
/-- An instruction, as it lies. -/
theorem ir_at {w : World} {a : Option Addr} {n c : Nat} {l : List IrT} (h : Sl layIr 88 w a n c l) (q : Nat) (hq : q < n) :
    ∃ b o kd r ra rb k xa xn xc args cost mt pc, a = some ⟨b, o, none⟩ ∧ l[q]? = some (kd, r, ra, rb, k, args, cost, mt, pc) ∧ w.cell? ⟨b, o + q * 9, none⟩ = some (.int .i64 kd) ∧ w.cell? ⟨b, o + q * 9 + 1, none⟩ = some (.int .i64 r) ∧ w.cell? ⟨b, o + q * 9 + 2, none⟩ = some (.int .i64 ra) ∧
      w.cell? ⟨b, o + q * 9 + 3, none⟩ = some (.int .i64 rb) ∧ w.cell? ⟨b, o + q * 9 + 4, none⟩ = some (.int .i64 k) ∧ w.cell? ⟨b, o + q * 9 + 5, none⟩ = some (.slice xa xn xc) ∧ w.cell? ⟨b, o + q * 9 + 6, none⟩ = some (.int .i64 cost) ∧ w.cell? ⟨b, o + q * 9 + 7, none⟩ = some (.int .i64 mt) ∧
      w.cell? ⟨b, o + q * 9 + 8, none⟩ = some (.int .i64 pc) ∧ Ints w xa xn xc args := by
  obtain ⟨b, o, ⟨kd, r, ra, rb, k, args, cost, mt, pc⟩, ha, hx, r0, r1, r2, r3, r4, ⟨xa, xn, xc, r5, i5⟩, r6, r7, r8⟩ := h.at q hq
  exact ⟨b, o, kd, r, ra, rb, k, xa, xn, xc, args, cost, mt, pc, ha, hx, r0, r1, r2, r3, r4, r5, r6, r7, r8, i5.ints⟩
/-- A part, as it lies. -/
theorem part_at {w : World} {a : Option Addr} {n c : Nat} {l : List PartT} (h : Sl layPart 64 w a n c l) (q : Nat) (hq : q < n) :
    ∃ b o fn pc la ln lc ll sa sn sc sl, a = some ⟨b, o, none⟩ ∧ l[q]? = some (fn, pc, ll, sl) ∧ w.cell? ⟨b, o + q * 4, none⟩ = some (.int .i64 fn) ∧ w.cell? ⟨b, o + q * 4 + 1, none⟩ = some (.int .i64 pc) ∧ w.cell? ⟨b, o + q * 4 + 2, none⟩ = some (.slice la ln lc) ∧
      w.cell? ⟨b, o + q * 4 + 3, none⟩ = some (.slice sa sn sc) ∧ Sl laySrcs 16 w la ln lc ll ∧ Sl laySrcs 16 w sa sn sc sl := by
  obtain ⟨b, o, ⟨fn, pc, ll, sl⟩, ha, hx, r0, r1, ⟨la, ln, lc, r2, i2⟩, sa, sn, sc, r3, i3⟩ := h.at q hq
  exact ⟨b, o, fn, pc, la, ln, lc, ll, sa, sn, sc, sl, ha, hx, r0, r1, r2, r3, i2, i3⟩
/-- A meta, as it lies. -/
theorem meta_at {w : World} {a : Option Addr} {n c : Nat} {l : List (List PartT)} (h : Sl layMeta 24 w a n c l) (q : Nat) (hq : q < n) :
    ∃ b o pa pn pc parts, a = some ⟨b, o, none⟩ ∧ l[q]? = some parts ∧ w.cell? ⟨b, o + q * 1, none⟩ = some (.slice pa pn pc) ∧ Sl layPart 64 w pa pn pc parts := by
  obtain ⟨b, o, parts, ha, hx, pa, pn, pc, r0, i0⟩ := h.at q hq
  exact ⟨b, o, pa, pn, pc, parts, ha, hx, r0, i0⟩
theorem src_at {w : World} {a : Option Addr} {n c : Nat} {l : List SrcT} (h : Sl laySrcs 16 w a n c l) (q : Nat) (hq : q < n) :
    ∃ b o k v, a = some ⟨b, o, none⟩ ∧ l[q]? = some (k, v) ∧ w.cell? ⟨b, o + q * 2, none⟩ = some (.bool k) ∧ w.cell? ⟨b, o + q * 2 + 1, none⟩ = some (.int .i64 v) := by
  obtain ⟨b, o, ⟨k, v⟩, ha, hx, r0, r1⟩ := h.at q hq
  exact ⟨b, o, k, v, ha, hx, r0, r1⟩

end Go.Proofs.YtaimpljkbpnigaaGreatDoor
