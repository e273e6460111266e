/- What each does: n parts one by one, by whatever closure, up to the first that has a fault. -/
import Derived.Test.YtcngmkbgcfhmdaaGreatDoorErr
import Derived.Test.YtcngmkbgcfhmdaaGreatDoorShelf
import Derived.Lib.ItoaLen
namespace Go.Proofs.YtcngmkbgcfhmdaaGreatDoor
open Go.RowKit Go.Extern.Stop Go.Stop Go.Extern
set_option linter.unusedVariables false

theorem grow_below (w : World) (k : Nat) (os : Array Obj) : Below w.heap.size w (Sort.grow (w.drewN k) os) :=
  ⟨rfl, rfl, rfl, by simp [Sort.grow, World.drewN], fun j hj => by simp [Sort.grow, World.drewN, Array.getElem?_append_left hj]⟩

theorem itoa_below (k : Nat) (hk : k ≤ 255) (w : World) (ht : Lib.TabIs Tryz.prog w "internal/strconv.uint64pow10" .u64 Lib.pow10Tab) :
    Calls Tryz.prog 140 #[.int .i64 k] w fun e w' => ∃ s : ByteArray, s.size ≤ 21 ∧ e = .returned (.string s) ∧ Below w.heap.size w w' := by
  refine (Tryz.strconv_Itoa k (by omega) (by omega) w ht).mono ?_
  rintro e w' ⟨rfl, d, os, rfl⟩
  refine ⟨_, ?_, rfl, grow_below _ _ _⟩
  have := Lib.itoa_length_le (k : Int) (by omega) (by omega)
  show (Lib.itoa (k : Int)).toArray.size ≤ 21
  simpa using this

set_option maxHeartbeats 1000000 in
/-- The closure F with what it has captured: I says what holds ahead of part k, J what holds behind a part with a fault. -/
theorem each_any (name : ByteArray) (hname : name.size ≤ 100) (n : Nat) (hn : n ≤ 255) (F : FuncId) (cap : Array Value) (hent : ∀ args w, (callFunc F args).run Tryz.prog w = .ok (.enter F args) w)
    {a b : Addr} {B : Nat} (I J : Nat → World → Prop) (w : World) (h0 : I 0 w)
    (hJ : ∀ k w', J k w' → Laid a b B w') (hJb : ∀ k w' w'', J k w' → Below w'.heap.size w' w'' → J k w'')
    (hstep : ∀ k w', k < n → I k w' → Calls Tryz.prog F (#[.int .i64 k] ++ cap) w' fun e u => (e = .returned .nilIface ∧ I (k + 1) u) ∨ (∃ v x m, e = .returned v ∧ Chain v x m ∧ (x = a ∨ x = b) ∧ J k u)) :
    Calls Tryz.prog 127 #[.string name, .int .i64 n, .func (.func F) #[] cap] w fun e u => (e = .returned .nilIface ∧ I n u) ∨ (∃ k v x m, k < n ∧ e = .returned v ∧ Chain v x m ∧ (x = a ∨ x = b) ∧ J k u) := by
  go_enter Tryz.func127, Tryz.ntmps127
  go_wp2_with fail
  go_loopw [10] (fun i wr => ∃ k : Nat, k ≤ n ∧ i = .int .i64 k ∧ I k wr) (fun i _ => n - (intOf i).toNat)
  case atStart => exact ⟨0, Nat.zero_le _, rfl, h0⟩
  case round =>
    obtain ⟨k, hk, rfl, hik⟩ := hrel
    by_cases hlt : k < n
    · go_wp2_with fail
      refine (hstep k wr hlt hik).mono ?_
      rintro e u (⟨rfl, hi⟩ | ⟨v, x, m, rfl, hc, hx, hj⟩)
      · go_wp2_with fail
        go_roundw
        case rel => exact ⟨k + 1, by omega, by go_num, hi⟩
        case measure => simp [intOf]; omega
      · obtain ⟨t, y, rfl⟩ := hc.iface
        have HC := hid hc
        have HJ := hid hj
        have L := hid (hJ _ _ hj)
        clear hc hj
        go_wp2_with fail
        refine (itoa_below k (by omega) _ L.out.tab).mono ?_
        rintro e u2 ⟨s, hs, rfl, hb⟩
        go_wp2_with fail
        go_ret
        exact .inr ⟨k, _, x, _, hlt, rfl, .wrap _ _ _ _ HC.out, hx, hJb _ _ _ HJ.out hb⟩
    · go_wp2_with fail
      go_ret
      have hkn : k = n := by omega
      exact .inl ⟨rfl, hkn ▸ hik⟩

end Go.Proofs.YtcngmkbgcfhmdaaGreatDoor
