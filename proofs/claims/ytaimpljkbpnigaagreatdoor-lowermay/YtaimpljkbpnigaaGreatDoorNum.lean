/- Package number: whether all of a list are numbers; and whether a list of numbers has one that a function picks, for whatever function (slices.IndexFunc, slices.ContainsFunc). -/
import Derived.Test.YtaimpljkbpnigaaGreatDoorMemFr
import Derived.Test.YtaimpljkbpnigaaGreatDoorDo
import Derived.Shelf.Abstract
namespace Go.Proofs.YtaimpljkbpnigaaGreatDoor
open Go.RowKit
set_option linter.unusedVariables false

set_option maxHeartbeats 1000000 in
theorem indexInts_any (F : FuncId) (cap : Array Value) (hent : ∀ args w, (callFunc F args).run Tryz.prog w = .ok (.enter F args) w) (p : Int → Bool) (a : Option Addr) (n c : Nat) (l : List Int) (w : World) (h : Ints w a n c l)
    (hstep : ∀ x w', Below w.heap.size w w' → Calls Tryz.prog F (#[.int .i64 x] ++ cap) w' fun e u => e = .returned (.bool (p x)) ∧ Below w'.heap.size w' u) :
    Calls Tryz.prog 113 #[.slice a n c, .func (.func F) #[] cap] w fun e w' => ∃ r : Int, e = .returned (.int .i64 r) ∧ decide (0 ≤ r) = l.any p ∧ Below w.heap.size w w' := by
  have L := hid h.len
  have hr := h.room
  have hcp := h.cap
  go_enter Tryz.func113, Tryz.ntmps113
  go_wp2_with fail
  go_loopw [8] (fun i wr => ∃ q : Nat, q ≤ n ∧ i = .int .i64 q ∧ ((l.take q).any p) = false ∧ Below w.heap.size w wr) (fun i _ => n - (intOf i).toNat)
  case atStart => exact ⟨0, Nat.zero_le _, rfl, by simp, by go_grown⟩
  case round =>
    obtain ⟨q, hq, rfl, ht, hb⟩ := hrel
    have HT := hid ht
    clear ht
    by_cases hlt : q < n
    · obtain ⟨b1, o1, ha, r1⟩ := (h.kept hb).row (by omega)
      have c1 := r1 q hlt
      have hx0 : l[q]? = some (l.getD q 0) := by rw [List.getD_eq_getElem?_getD, List.getElem?_eq_getElem (by have := L.out; omega)]; rfl
      generalize l.getD q 0 = x at c1 hx0
      have HX := hid hx0
      have ST := hid (hstep x wr hb)
      subst ha
      clear r1 hx0
      cases hm : p x
      · have F : Hid ((l.take (q + 1)).any p = false) := hid (by rw [List.take_add_one, List.any_append, HT.out, HX.out]; simp [hm])
        rw [hm] at ST
        clear hm
        go_wp2_with fail
        refine ST.out.mono ?_
        rintro e w1 ⟨rfl, b1⟩
        go_wp2_with fail
        go_roundw
        case rel => exact ⟨q + 1, by omega, by go_num, F.out, kt hb b1⟩
        case measure => simp [intOf]; omega
      · have F : Hid (l.any p = true) := hid (List.any_eq_true.2 ⟨x, List.mem_of_getElem? HX.out, hm⟩)
        rw [hm] at ST
        clear hm
        go_wp2_with fail
        refine ST.out.mono ?_
        rintro e w1 ⟨rfl, b1⟩
        go_wp2_with fail
        go_ret
        exact ⟨_, rfl, by rw [F.out]; simp, kt hb b1⟩
    · have F : Hid (l.any p = false) := hid (by have h := HT.out; rwa [List.take_of_length_le (by have := L.out; omega)] at h)
      go_wp2
      go_ret
      exact ⟨_, rfl, by rw [F.out]; simp, hb⟩

set_option maxHeartbeats 400000 in
theorem containsInts_any (F : FuncId) (cap : Array Value) (hent : ∀ args w, (callFunc F args).run Tryz.prog w = .ok (.enter F args) w) (p : Int → Bool) (a : Option Addr) (n c : Nat) (l : List Int) (w : World) (h : Ints w a n c l)
    (hstep : ∀ x w', Below w.heap.size w w' → Calls Tryz.prog F (#[.int .i64 x] ++ cap) w' fun e u => e = .returned (.bool (p x)) ∧ Below w'.heap.size w' u) :
    Calls Tryz.prog 94 #[.slice a n c, .func (.func F) #[] cap] w fun e w' => e = .returned (.bool (l.any p)) ∧ Below w.heap.size w w' := by
  have ST := hid hstep
  go_enter Tryz.func94, Tryz.ntmps94
  go_wp2_with fail
  refine (indexInts_any F cap hent p _ _ _ l _ h ST.out).mono ?_
  rintro e w1 ⟨r, rfl, hr, hb⟩
  have HR := hid hr
  clear hr
  go_wp2_with fail
  go_ret
  exact ⟨ret_bool HR.out, hb⟩

end Go.Proofs.YtaimpljkbpnigaaGreatDoor
