/- A list of structs has one that a function picks, for whatever function (slices.IndexFunc, slices.ContainsFunc). Written by pickgen.py. -/
import Derived.Test.YtfnfbebkeoilfaaGreatDoorMemIr
import Derived.Test.YtfnfbebkeoilfaaGreatDoorNum
import Derived.Shelf.Abstract
namespace Go.Proofs.YtfnfbebkeoilfaaGreatDoor
open Go.RowKit
set_option linter.unusedVariables false

set_option maxHeartbeats 1000000 in
theorem indexSrcs_any (F : FuncId) (cap : Array Value) (hent : ∀ args w, (callFunc F args).run Tryz.prog w = .ok (.enter F args) w) (p : SrcT → Bool) (a : Option Addr) (n c : Nat) (l : List SrcT) (w : World) (h : Sl laySrcs 16 w a n c l)
    (hstep : ∀ (k : Bool) (v : Int) w', Below w.heap.size w w' → Calls Tryz.prog F (#[.agg #[.bool k, .int .i64 v]] ++ cap) w' fun e u => e = .returned (.bool (p (k, v))) ∧ Below w'.heap.size w' u) :
    Calls Tryz.prog 120 #[.slice a n c, .func (.func F) #[] cap] w fun e w' => ∃ r : Int, e = .returned (.int .i64 r) ∧ decide (0 ≤ r) = l.any p ∧ Below w.heap.size w w' := by
  have L := hid h.len
  have hr := h.room
  have hcp := h.cap
  go_enter Tryz.func120, Tryz.ntmps120
  go_wp2_with fail
  go_loopw [8] (fun i wr => ∃ q : Nat, q ≤ n ∧ i = .int .i64 q ∧ ((l.take q).any p) = false ∧ Below w.heap.size w wr) (fun i _ => n - (intOf i).toNat)
  case atStart => exact ⟨0, Nat.zero_le _, rfl, by simp, by go_grown⟩
  case round =>
    obtain ⟨q, hq, rfl, ht, hb⟩ := hrel
    have HT := hid ht
    clear ht
    by_cases hlt : q < n
    · obtain ⟨b1, o1, k, v, rfl, hx0, c0, c1⟩ := src_at (h.kept hb) q hlt
      have HX := hid hx0
      have ST := hid (hstep k v wr hb)
      clear hx0
      cases hm : p (k, v)
      · have F : Hid ((l.take (q + 1)).any p = false) := hid (by rw [List.take_add_one, List.any_append, HT.out, HX.out]; simp [hm])
        rw [hm] at ST
        clear hm
        go_wp2_with fail
        refine ST.out.mono ?_
        rintro e w1 ⟨rfl, b1⟩
        go_wp2_with fail
        go_roundw
        case rel => exact ⟨q + 1, by omega, by go_num, F.out, kt hb b1⟩
        case measure => simp [intOf]; omega
      · have F : Hid (l.any p = true) := hid (List.any_eq_true.2 ⟨_, List.mem_of_getElem? HX.out, hm⟩)
        rw [hm] at ST
        clear hm
        go_wp2_with fail
        refine ST.out.mono ?_
        rintro e w1 ⟨rfl, b1⟩
        go_wp2_with fail
        go_ret
        exact ⟨_, rfl, by rw [F.out]; simp, kt hb b1⟩
    · have F : Hid (l.any p = false) := hid (by have h := HT.out; rwa [List.take_of_length_le (by have := L.out; omega)] at h)
      go_wp2
      go_ret
      exact ⟨_, rfl, by rw [F.out]; simp, hb⟩

set_option maxHeartbeats 400000 in
theorem containsSrcs_any (F : FuncId) (cap : Array Value) (hent : ∀ args w, (callFunc F args).run Tryz.prog w = .ok (.enter F args) w) (p : SrcT → Bool) (a : Option Addr) (n c : Nat) (l : List SrcT) (w : World) (h : Sl laySrcs 16 w a n c l)
    (hstep : ∀ (k : Bool) (v : Int) w', Below w.heap.size w w' → Calls Tryz.prog F (#[.agg #[.bool k, .int .i64 v]] ++ cap) w' fun e u => e = .returned (.bool (p (k, v))) ∧ Below w'.heap.size w' u) :
    Calls Tryz.prog 103 #[.slice a n c, .func (.func F) #[] cap] w fun e w' => e = .returned (.bool (l.any p)) ∧ Below w.heap.size w w' := by
  have ST := hid hstep
  go_enter Tryz.func103, Tryz.ntmps103
  go_wp2_with fail
  refine (indexSrcs_any F cap hent p _ _ _ l _ h ST.out).mono ?_
  rintro e w1 ⟨r, rfl, hr, hb⟩
  have HR := hid hr
  clear hr
  go_wp2_with fail
  go_ret
  exact ⟨ret_bool HR.out, hb⟩

set_option maxHeartbeats 1000000 in
theorem indexMetas_any (F : FuncId) (cap : Array Value) (hent : ∀ args w, (callFunc F args).run Tryz.prog w = .ok (.enter F args) w) (p : (List PartT) → Bool) (a : Option Addr) (n c : Nat) (l : List (List PartT)) (w : World) (h : Sl layMeta 24 w a n c l)
    (hstep : ∀ (pa : Option Addr) (pn pc : Nat) (parts : List PartT) w', Below w.heap.size w w' → Sl layPart 64 w' pa pn pc parts → Calls Tryz.prog F (#[.agg #[.slice pa pn pc]] ++ cap) w' fun e u => e = .returned (.bool (p parts)) ∧ Below w'.heap.size w' u) :
    Calls Tryz.prog 52 #[.slice a n c, .func (.func F) #[] cap] w fun e w' => ∃ r : Int, e = .returned (.int .i64 r) ∧ decide (0 ≤ r) = l.any p ∧ Below w.heap.size w w' := by
  have L := hid h.len
  have hr := h.room
  have hcp := h.cap
  go_enter Tryz.func52, Tryz.ntmps52
  go_wp2_with fail
  go_loopw [8] (fun i wr => ∃ q : Nat, q ≤ n ∧ i = .int .i64 q ∧ ((l.take q).any p) = false ∧ Below w.heap.size w wr) (fun i _ => n - (intOf i).toNat)
  case atStart => exact ⟨0, Nat.zero_le _, rfl, by simp, by go_grown⟩
  case round =>
    obtain ⟨q, hq, rfl, ht, hb⟩ := hrel
    have HT := hid ht
    clear ht
    by_cases hlt : q < n
    · obtain ⟨b1, o1, pa, pn, pc, parts, rfl, hx0, c0, hpar⟩ := meta_at (h.kept hb) q hlt
      rw [Nat.mul_one] at c0
      have HX := hid hx0
      have ST := hid (hstep pa pn pc parts wr hb hpar)
      clear hx0 hpar
      cases hm : p parts
      · have F : Hid ((l.take (q + 1)).any p = false) := hid (by rw [List.take_add_one, List.any_append, HT.out, HX.out]; simp [hm])
        rw [hm] at ST
        clear hm
        go_wp2_with fail
        refine ST.out.mono ?_
        rintro e w1 ⟨rfl, b1⟩
        go_wp2_with fail
        go_roundw
        case rel => exact ⟨q + 1, by omega, by go_num, F.out, kt hb b1⟩
        case measure => simp [intOf]; omega
      · have F : Hid (l.any p = true) := hid (List.any_eq_true.2 ⟨_, List.mem_of_getElem? HX.out, hm⟩)
        rw [hm] at ST
        clear hm
        go_wp2_with fail
        refine ST.out.mono ?_
        rintro e w1 ⟨rfl, b1⟩
        go_wp2_with fail
        go_ret
        exact ⟨_, rfl, by rw [F.out]; simp, kt hb b1⟩
    · have F : Hid (l.any p = false) := hid (by have h := HT.out; rwa [List.take_of_length_le (by have := L.out; omega)] at h)
      go_wp2
      go_ret
      exact ⟨_, rfl, by rw [F.out]; simp, hb⟩

set_option maxHeartbeats 400000 in
theorem containsMetas_any (F : FuncId) (cap : Array Value) (hent : ∀ args w, (callFunc F args).run Tryz.prog w = .ok (.enter F args) w) (p : (List PartT) → Bool) (a : Option Addr) (n c : Nat) (l : List (List PartT)) (w : World) (h : Sl layMeta 24 w a n c l)
    (hstep : ∀ (pa : Option Addr) (pn pc : Nat) (parts : List PartT) w', Below w.heap.size w w' → Sl layPart 64 w' pa pn pc parts → Calls Tryz.prog F (#[.agg #[.slice pa pn pc]] ++ cap) w' fun e u => e = .returned (.bool (p parts)) ∧ Below w'.heap.size w' u) :
    Calls Tryz.prog 33 #[.slice a n c, .func (.func F) #[] cap] w fun e w' => e = .returned (.bool (l.any p)) ∧ Below w.heap.size w w' := by
  have ST := hid hstep
  go_enter Tryz.func33, Tryz.ntmps33
  go_wp2_with fail
  refine (indexMetas_any F cap hent p _ _ _ l _ h ST.out).mono ?_
  rintro e w1 ⟨r, rfl, hr, hb⟩
  have HR := hid hr
  clear hr
  go_wp2_with fail
  go_ret
  exact ⟨ret_bool HR.out, hb⟩

end Go.Proofs.YtfnfbebkeoilfaaGreatDoor
