/- What the document's own Put returns: the bytes of a program that may be packed, else an error. -/
import Derived.Test.YtaimpljkbpnigaaGreatDoorRefPacks
import Derived.Test.YtaimpljkbpnigaaGreatDoorJ2s
import Derived.Laws.BytesArg
namespace Go.Proofs.YtaimpljkbpnigaaGreatDoor
open Go.RowKit
set_option linter.unusedVariables false

theorem ret_si {s s' : ByteArray} {k : Int} (h : s = s') : Ending.returned (.tuple #[.string s, .int .i64 k]) = .returned (.tuple #[.string s', .int .i64 k]) := by rw [h]

theorem Tryz.infoByte : (Tryz.prog.info? 5).map (fun i => (i.zero, i.size, i.bytes)) = some (some (.int .u8 0), 1, 1) := by kernel_rfl

def putS (l : List Fn) : ByteArray := if packsB l = true then strOfNums (putBytes l) else ByteArray.empty
def putE (l : List Fn) : Int := if packsB l = true then 0 else 300

end Go.Proofs.YtaimpljkbpnigaaGreatDoor
