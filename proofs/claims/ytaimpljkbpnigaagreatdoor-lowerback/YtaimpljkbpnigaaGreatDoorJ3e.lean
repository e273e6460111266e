/- The package's errors: two sentinels as their variables hold them, chains of faults around one of them, and what errors.Is and numberOf return for such a chain. What each does: n parts one by one, by whatever closure, up to the first that has a fault. What check returns: nil, if the program may be packed; else a chain of faults. What sizeOfA and appendNumber of package pack return: how many bytes an A takes; its lowest bytes behind what was there. What pack.Put returns: the bytes of a program that may be packed, else an error. -/
import Derived.Test.YtaimpljkbpnigaaGreatDoorIns
import Derived.Test.YtaimpljkbpnigaaGreatDoorChecked
import Derived.WalkKit
import Derived.LaidEql
import Derived.Stop.Asserts
import Derived.RowKitTokens
import Derived.Lib.LaidTab
import Derived.Lib.ItoaNum
import Derived.Test.YtaimpljkbpnigaaGreatDoorShelf
import Derived.Lib.ItoaLen
import Derived.Test.YtaimpljkbpnigaaGreatDoorPlain3
import Derived.Test.YtaimpljkbpnigaaGreatDoorRefPacks
import Derived.Shelf.Abstract
import Derived.Test.YtaimpljkbpnigaaGreatDoorRefPut
import Derived.Deep.RegionWith
import Derived.ArgAppend
import Derived.Lib.SlBytesConst
namespace Go.Proofs.YtaimpljkbpnigaaGreatDoor
open Go.RowKit Go.Extern.Stop Go.Stop Go.Extern
set_option linter.unusedVariables false

/-- What the package's variables hold (blocks below B): errForm points to a, errEnd to b, the library's table of powers. -/
structure Laid (a b : Addr) (B : Nat) (w : World) : Prop where
  low : 1 < B ∧ 2 < B ∧ 3 < B
  size : B ≤ w.heap.size
  form : w.cell? ⟨1, 0, none⟩ = some (.iface 232 (.pointer (some a)))
  fend : w.cell? ⟨2, 0, none⟩ = some (.iface 232 (.pointer (some b)))
  ne : a ≠ b
  la : a.block < B
  lb : b.block < B
  ra : ∃ c t, w.heap[a.block]? = some (.cells c t (0, 0))
  rb : ∃ c t, w.heap[b.block]? = some (.cells c t (0, 0))
  tab : Lib.TabIs Tryz.prog w "internal/strconv.uint64pow10" .u64 Lib.pow10Tab

theorem Tryz.gPow : Tryz.prog.globalNamed "internal/strconv.uint64pow10" = some 3 := by kernel_rfl

theorem Laid.kept {a b : Addr} {B : Nat} {w w' : World} (h : Laid a b B w) (hb : Below B w w') : Laid a b B w' := by
  obtain ⟨l1, l2, l3⟩ := h.low
  refine ⟨h.low, ?_, ?_, ?_, h.ne, h.la, h.lb, ?_, ?_, ?_⟩
  · have := hb.size; have := h.size; omega
  · rw [hb.cell (p := ⟨1, 0, none⟩) l1]; exact h.form
  · rw [hb.cell (p := ⟨2, 0, none⟩) l2]; exact h.fend
  · obtain ⟨c, t, e⟩ := h.ra; exact ⟨c, t, by rw [hb.block _ h.la]; exact e⟩
  · obtain ⟨c, t, e⟩ := h.rb; exact ⟨c, t, by rw [hb.block _ h.lb]; exact e⟩
  · have e := h.tab
    unfold Lib.TabIs World.var? at e ⊢
    rw [Tryz.gPow] at e ⊢
    simp only [Option.bind_some] at e ⊢
    rw [hb.block 3 l3]
    exact e
theorem Laid.mono {a b : Addr} {B B' : Nat} {w : World} (h : Laid a b B w) (hB : B ≤ B') (hs : B' ≤ w.heap.size) : Laid a b B' w :=
  ⟨⟨Nat.lt_of_lt_of_le h.low.1 hB, Nat.lt_of_lt_of_le h.low.2.1 hB, Nat.lt_of_lt_of_le h.low.2.2 hB⟩, hs, h.form, h.fend, h.ne, Nat.lt_of_lt_of_le h.la hB, Nat.lt_of_lt_of_le h.lb hB, h.ra, h.rb, h.tab⟩
theorem Laid.up {a b : Addr} {w w' : World} (h : Laid a b w.heap.size w) (hb : Below w.heap.size w w') : Laid a b w'.heap.size w' :=
  (h.kept hb).mono hb.size (Nat.le_refl _)

/-- A chain of n faults around a sentinel at x. -/
def ChainN : Nat → Value → Addr → Prop
  | 0, v, x => v = .iface 232 (.pointer (some x))
  | n + 1, v, x => ∃ s v', v = .iface 205 (.agg #[.string s, v']) ∧ ChainN n v' x
def Chain (v : Value) (x : Addr) (n : Nat) : Prop := ChainN n v x
theorem Chain.leaf (x : Addr) : Chain (.iface 232 (.pointer (some x))) x 0 := rfl
theorem Chain.wrap (s : ByteArray) (v : Value) (x : Addr) (n : Nat) (h : Chain v x n) : Chain (.iface 205 (.agg #[.string s, v])) x (n + 1) := ⟨s, v, rfl, h⟩
theorem Chain.iface {v : Value} {x : Addr} {n : Nat} (h : Chain v x n) : ∃ u y, v = .iface u y := by
  cases n with
  | zero => exact ⟨_, _, h⟩
  | succ n => obtain ⟨s, v', e, _⟩ := h; exact ⟨_, _, e⟩
/-- How many faults a value has around it, as far as k goes: the loop's measure. -/
def chainLen : Nat → Value → Nat
  | 0, _ => 0
  | k + 1, .iface _ (.agg a) => 1 + chainLen k (a.getD 1 .nilIface)
  | _ + 1, _ => 0
theorem chainLen_eq {n : Nat} : ∀ {v : Value} {x : Addr} {k : Nat}, Chain v x n → n ≤ k → chainLen k v = n := by
  induction n with
  | zero =>
    intro v x k h _
    have e : v = .iface 232 (.pointer (some x)) := h
    subst e
    cases k <;> rfl
  | succ n ih =>
    intro v x k h hk
    obtain ⟨s, v', e, h'⟩ := h
    subst e
    match k, hk with
    | k + 1, hk =>
      have := ih (k := k) h' (by omega)
      show 1 + chainLen k v' = n + 1
      omega

theorem Tryz.isTypeOf (v : Value) (w : World) : (callFunc 110 #[.iface 232 v]).run Tryz.prog w = .ok (.value (.iface 175 (.agg #[.pointer (some ⟨6, 232, none⟩)]))) w := by kernel_rfl
theorem Tryz.isComparable (w : World) : (callFunc 179 #[.agg #[.pointer (some ⟨6, 232, none⟩)]]).run Tryz.prog w = .ok (.value (.bool true)) w := by kernel_rfl
theorem Tryz.isMethodComparable (v : Value) (w : World) : (Go.method 365 175 v "Comparable").run Tryz.prog w = .ok (179, v) w := by kernel_rfl
theorem Tryz.isComp : (Tryz.prog.info? 232).map (·.comparable) = some true := by kernel_rfl
theorem Tryz.isSize : (Tryz.prog.info? 253).map (·.size) = some 1 := by kernel_rfl
theorem Tryz.noIsE (v : Value) (xT : TypeId) (w : World) : (Instr.typeAssert (.iface 232 v) xT 212 true).run Tryz.prog w = .ok (.tuple #[.nilIface, .bool false]) w := run_typeAssert_lacksB Tryz.underlying212 (by kernel_rfl) (by kernel_rfl) v xT w
theorem Tryz.noUnwrapE (v : Value) (xT : TypeId) (w : World) : (Instr.typeAssert (.iface 232 v) xT 183 true).run Tryz.prog w = .ok (.tuple #[.nilIface, .bool false]) w := run_typeAssert_lacksB Tryz.underlying183 (by kernel_rfl) (by kernel_rfl) v xT w
theorem Tryz.noUnwrapsE (v : Value) (xT : TypeId) (w : World) : (Instr.typeAssert (.iface 232 v) xT 185 true).run Tryz.prog w = .ok (.tuple #[.nilIface, .bool false]) w := run_typeAssert_lacksB Tryz.underlying185 (by kernel_rfl) (by kernel_rfl) v xT w
theorem Tryz.noIsW (v : Value) (xT : TypeId) (w : World) : (Instr.typeAssert (.iface 205 v) xT 212 true).run Tryz.prog w = .ok (.tuple #[.nilIface, .bool false]) w := run_typeAssert_lacksB Tryz.underlying212 (by kernel_rfl) (by kernel_rfl) v xT w
theorem Tryz.hasUnwrapW (v : Value) (xT : TypeId) (w : World) : (Instr.typeAssert (.iface 205 v) xT 183 true).run Tryz.prog w = .ok (.tuple #[.iface 205 v, .bool true]) w := run_typeAssert_hasB Tryz.underlying183 (by kernel_rfl) v xT w
theorem Tryz.methodUnwrap (v : Value) (w : World) : (Go.method 365 205 v "Unwrap").run Tryz.prog w = .ok (189, v) w := by kernel_rfl

theorem unwrap_any (s : ByteArray) (u : TypeId) (y : Value) (w : World) :
    Calls Tryz.prog 189 #[.agg #[.string s, .iface u y]] w fun e w' => e = .returned (.iface u y) ∧ Below w.heap.size w w' := by
  go_enter Tryz.func189, Tryz.ntmps189
  go_wp2
  go_ret
  exact ⟨rfl, by go_grown⟩

set_option maxRecDepth 1000000 in
set_option maxHeartbeats 2000000 in
theorem is_chain {w : World} (v : Value) (x t : Addr) (n : Nat) (hch : Chain v x n) (hx : ∃ c y, w.heap[x.block]? = some (.cells c y (0, 0))) (ht : ∃ c y, w.heap[t.block]? = some (.cells c y (0, 0))) :
    Calls Tryz.prog 134 #[v, .iface 232 (.pointer (some t)), .bool true] w fun e w' => e = .returned (.bool (decide (x = t))) ∧ Below w.heap.size w w' := by
  obtain ⟨i, hi, hcmp⟩ := Option.map_eq_some_iff.1 Tryz.isComp
  obtain ⟨j, hj, hjs⟩ := Option.map_eq_some_iff.1 Tryz.isSize
  obtain ⟨cx, yx, hx⟩ := hx
  obtain ⟨ct, yt, ht⟩ := ht
  have HX := hid hx
  have HT := hid ht
  have lx : x.block < w.heap.size := by
    rcases Nat.lt_or_ge x.block w.heap.size with h | h
    · exact h
    · rw [Array.getElem?_eq_none h] at hx; cases hx
  have lt : t.block < w.heap.size := by
    rcases Nat.lt_or_ge t.block w.heap.size with h | h
    · exact h
    · rw [Array.getElem?_eq_none h] at ht; cases ht
  clear hx ht
  have nE := Tryz.noIsE
  have uE := Tryz.noUnwrapE
  have vE := Tryz.noUnwrapsE
  have nW := Tryz.noIsW
  have uW := Tryz.hasUnwrapW
  have mU := Tryz.methodUnwrap
  go_enter Tryz.func134, Tryz.ntmps134
  go_wp2
  go_loopw [0] (fun E' wl => Below w.heap.size w wl ∧ ∃ m, m ≤ n ∧ Chain E' x m) (fun E' _ => chainLen n E')
  case atStart => exact ⟨Below.refl _ _, n, Nat.le_refl _, hch⟩
  case round =>
    obtain ⟨hb, m, hmn, hc'⟩ := hrel
    have hx' : wr.heap[x.block]? = some (.cells cx yx (0, 0)) := by rw [hb.block _ lx]; exact HX.out
    have ht' : wr.heap[t.block]? = some (.cells ct yt (0, 0)) := by rw [hb.block _ lt]; exact HT.out
    cases m with
    | zero =>
      have hcl : u0 = .iface 232 (.pointer (some x)) := hc'
      subst hcl
      clear hc'
      by_cases hab : x = t
      · subst hab
        have heq := run_eql_iface_ptr_same (P := Tryz.prog) wr x Tryz.underlying106 Tryz.underlying232 hi hcmp hj
        clear hx' ht'
        go_wp2
        go_ret
        exact ⟨by simp, hb⟩
      · have heq := run_eql_iface_ptr_other (P := Tryz.prog) wr Tryz.underlying106 Tryz.underlying232 hi hcmp hj (by rw [hjs]; decide) hab hx' ht'
        clear hx' ht'
        go_wp2
        go_ret
        exact ⟨by simp [hab], hb⟩
    | succ m1 =>
      obtain ⟨s, E1, hcl, h1⟩ := hc'
      subst hcl
      have hty := run_eql_iface_types (P := Tryz.prog) 205 232 (.agg #[.string s, E1]) (.pointer (some t)) Tryz.underlying106 (by decide) wr
      have hlen := chainLen_eq (k := n) h1 (by omega)
      have hlen0 := chainLen_eq (k := n) (Chain.wrap s E1 x m1 h1) hmn
      obtain ⟨u1, v1, rfl⟩ := Chain.iface h1
      have HLN := hid hlen
      have HL0 := hid hlen0
      clear hlen hlen0
      have HC := hid h1
      clear h1 hx' ht'
      go_wp2_with (go_at_call 189; refine (unwrap_any _ _ _ _).mono ?_; rintro e w' ⟨rfl, hw⟩)
      go_roundw
      case rel => exact ⟨kt hb hw, m1, by omega, HC.out⟩
      case measure =>
        show chainLen n (.iface u1 v1) < _
        rw [HLN.out, HL0.out]; simp

set_option maxRecDepth 1000000 in
set_option maxHeartbeats 2000000 in
theorem errorsIs_any {w : World} (v : Value) (x t : Addr) (n : Nat) (hch : Chain v x n) (hx : ∃ c y, w.heap[x.block]? = some (.cells c y (0, 0))) (ht : ∃ c y, w.heap[t.block]? = some (.cells c y (0, 0))) :
    Calls Tryz.prog 121 #[v, .iface 232 (.pointer (some t))] w fun e w' => e = .returned (.bool (decide (x = t))) ∧ Below w.heap.size w w' := by
  have tT := Tryz.isTypeOf
  have cT := Tryz.isComparable
  have mR := Tryz.isMethodComparable
  have hcon := is_chain v x t n hch hx ht
  obtain ⟨u, y, rfl⟩ := hch.iface
  clear hch hx ht
  go_enter Tryz.func121, Tryz.ntmps121
  go_wp2_with (first | (go_at_call 134; refine hcon.mono ?_; rintro e w' ⟨rfl, hw⟩) | go_in)
  go_ret
  exact ⟨rfl, hw⟩

set_option maxHeartbeats 1000000 in
theorem numberOf_any {w : World} {a b : Addr} {B : Nat} (L : Laid a b B w) (v : Value) (x : Addr) (n : Nat) (hch : Chain v x n) (hx : x = a ∨ x = b) :
    Calls Tryz.prog 99 #[v] w fun e w' => e = .returned (.int .i64 300) ∧ Below w.heap.size w w' := by
  have hrx : ∃ c y, w.heap[x.block]? = some (.cells c y (0, 0)) := by rcases hx with rfl | rfl; exact L.ra; exact L.rb
  have c0 := L.form
  have c1 := L.fend
  have H1 := hid (errorsIs_any v x a n hch hrx L.ra)
  by_cases hxa : x = a
  · have e1 : decide (x = a) = true := by simp [hxa]
    rw [e1] at H1
    clear hch hrx hx L
    go_enter Tryz.func99, Tryz.ntmps99
    go_wp2_with (go_at_call 121; refine H1.out.mono ?_; rintro e w' ⟨rfl, hw⟩)
    go_ret
    exact ⟨rfl, hw⟩
  · have e1 : decide (x = a) = false := by simp [hxa]
    have hxb : x = b := by rcases hx with h | h; exact absurd h hxa; exact h
    rw [e1] at H1
    have H2 : Hid (∀ w', Below w.heap.size w w' → Calls Tryz.prog 121 #[v, .iface 232 (.pointer (some b))] w' fun e w' => e = .returned (.bool true) ∧ Below w.heap.size w w') := by
      refine hid fun w' hw => ?_
      have e2 : decide (x = b) = true := by simp [hxb]
      have hrb : ∃ c y, w'.heap[b.block]? = some (.cells c y (0, 0)) := by
        obtain ⟨c, y, e⟩ := L.rb
        exact ⟨c, y, by rw [hw.block _ (Nat.lt_of_lt_of_le L.lb L.size)]; exact e⟩
      refine (errorsIs_any v x b n hch (by rw [hxb]; exact hrb) hrb).mono ?_
      rintro e w2 ⟨rfl, h2⟩
      exact ⟨by rw [e2], kt hw h2⟩
    clear hch hrx hx L hxb hxa
    go_enter Tryz.func99, Tryz.ntmps99
    go_wp2_with (go_at_call 121; first | (refine H1.out.mono ?_; rintro e w1 ⟨rfl, hw⟩; have c2 := kept_cell hw c1; have HW := hid hw; clear hw H1) | (refine (H2.out _ HW.out).mono ?_; rintro e w2 ⟨rfl, hw2⟩))
    go_ret
    exact ⟨rfl, hw2⟩

end Go.Proofs.YtaimpljkbpnigaaGreatDoor

namespace Go.Proofs.YtaimpljkbpnigaaGreatDoor
open Go.RowKit Go.Extern.Stop Go.Stop Go.Extern
set_option linter.unusedVariables false

theorem grow_below (w : World) (k : Nat) (os : Array Obj) : Below w.heap.size w (Sort.grow (w.drewN k) os) :=
  ⟨rfl, rfl, rfl, by simp [Sort.grow, World.drewN], fun j hj => by simp [Sort.grow, World.drewN, Array.getElem?_append_left hj]⟩

theorem itoa_below (k : Nat) (hk : k ≤ 255) (w : World) (ht : Lib.TabIs Tryz.prog w "internal/strconv.uint64pow10" .u64 Lib.pow10Tab) :
    Calls Tryz.prog 132 #[.int .i64 k] w fun e w' => ∃ s : ByteArray, s.size ≤ 21 ∧ e = .returned (.string s) ∧ Below w.heap.size w w' := by
  refine (Tryz.strconv_Itoa k (by omega) (by omega) w ht).mono ?_
  rintro e w' ⟨rfl, d, os, rfl⟩
  refine ⟨_, ?_, rfl, grow_below _ _ _⟩
  have := Lib.itoa_length_le (k : Int) (by omega) (by omega)
  show (Lib.itoa (k : Int)).toArray.size ≤ 21
  simpa using this

set_option maxHeartbeats 1000000 in
/-- The closure F with what it has captured: I says what holds ahead of part k, J what holds behind a part with a fault. -/
theorem each_any (name : ByteArray) (hname : name.size ≤ 100) (n : Nat) (hn : n ≤ 255) (F : FuncId) (cap : Array Value) (hent : ∀ args w, (callFunc F args).run Tryz.prog w = .ok (.enter F args) w)
    {a b : Addr} {B : Nat} (I J : Nat → World → Prop) (w : World) (h0 : I 0 w)
    (hJ : ∀ k w', J k w' → Laid a b B w') (hJb : ∀ k w' w'', J k w' → Below w'.heap.size w' w'' → J k w'')
    (hstep : ∀ k w', k < n → I k w' → Calls Tryz.prog F (#[.int .i64 k] ++ cap) w' fun e u => (e = .returned .nilIface ∧ I (k + 1) u) ∨ (∃ v x m, e = .returned v ∧ Chain v x m ∧ (x = a ∨ x = b) ∧ J k u)) :
    Calls Tryz.prog 118 #[.string name, .int .i64 n, .func (.func F) #[] cap] w fun e u => (e = .returned .nilIface ∧ I n u) ∨ (∃ k v x m, k < n ∧ e = .returned v ∧ Chain v x m ∧ (x = a ∨ x = b) ∧ J k u) := by
  go_enter Tryz.func118, Tryz.ntmps118
  go_wp2_with fail
  go_loopw [10] (fun i wr => ∃ k : Nat, k ≤ n ∧ i = .int .i64 k ∧ I k wr) (fun i _ => n - (intOf i).toNat)
  case atStart => exact ⟨0, Nat.zero_le _, rfl, h0⟩
  case round =>
    obtain ⟨k, hk, rfl, hik⟩ := hrel
    by_cases hlt : k < n
    · go_wp2_with fail
      refine (hstep k wr hlt hik).mono ?_
      rintro e u (⟨rfl, hi⟩ | ⟨v, x, m, rfl, hc, hx, hj⟩)
      · go_wp2_with fail
        go_roundw
        case rel => exact ⟨k + 1, by omega, by go_num, hi⟩
        case measure => simp [intOf]; omega
      · obtain ⟨t, y, rfl⟩ := hc.iface
        have HC := hid hc
        have HJ := hid hj
        have L := hid (hJ _ _ hj)
        clear hc hj
        go_wp2_with fail
        refine (itoa_below k (by omega) _ L.out.tab).mono ?_
        rintro e u2 ⟨s, hs, rfl, hb⟩
        go_wp2_with fail
        go_ret
        exact .inr ⟨k, _, x, _, hlt, rfl, .wrap _ _ _ _ HC.out, hx, hJb _ _ _ HJ.out hb⟩
    · go_wp2_with fail
      go_ret
      have hkn : k = n := by omega
      exact .inl ⟨rfl, hkn ▸ hik⟩

end Go.Proofs.YtaimpljkbpnigaaGreatDoor

namespace Go.Proofs.YtaimpljkbpnigaaGreatDoor
open Go.RowKit Go.Extern.Stop Go.Stop Go.Extern
set_option linter.unusedVariables false

/-- A fault that leads to one of the two sentinels. -/
def Bad (a b : Addr) (e : Ending) : Prop := ∃ v x m, e = .returned v ∧ Chain v x m ∧ (x = a ∨ x = b)
theorem Bad.wrap {a b : Addr} {v : Value} (h : Bad a b (.returned v)) (s : ByteArray) : Bad a b (.returned (.iface 205 (.agg #[.string s, v]))) := by
  obtain ⟨v', x, m, e, hc, hx⟩ := h
  cases e
  exact ⟨_, x, m + 1, rfl, .wrap _ _ _ _ hc, hx⟩

theorem bounds_ok (part : ByteArray) (x lo hi : Int) (w : World) (h1 : lo ≤ x) (h2 : x ≤ hi) :
    Calls Tryz.prog 117 #[.string part, .int .i64 x, .int .i64 lo, .int .i64 hi] w fun e w' => e = .returned .nilIface ∧ w' = w := by
  have h1' : ¬ x < lo := by omega
  have h2' : ¬ hi < x := by omega
  go_enter Tryz.func117, Tryz.ntmps117
  go_wp2
  go_ret
  exact ⟨rfl, rfl⟩
theorem bounds_bad (part : ByteArray) (x lo hi : Int) (w : World) {a b : Addr} {B : Nat} (L : Laid a b B w) (h : x < lo ∨ hi < x) :
    Calls Tryz.prog 117 #[.string part, .int .i64 x, .int .i64 lo, .int .i64 hi] w fun e w' => (∃ v, e = .returned (.iface 205 v) ∧ Bad a b (.returned (.iface 205 v))) ∧ w' = w := by
  have c0 := L.form
  clear L
  by_cases h1 : x < lo
  · go_enter Tryz.func117, Tryz.ntmps117
    go_wp2
    go_ret
    exact ⟨⟨_, rfl, _, a, 1, rfl, .wrap _ _ _ _ (.leaf a), .inl rfl⟩, rfl⟩
  · have h2 : hi < x := by omega
    go_enter Tryz.func117, Tryz.ntmps117
    go_wp2
    go_ret
    exact ⟨⟨_, rfl, _, a, 1, rfl, .wrap _ _ _ _ (.leaf a), .inl rfl⟩, rfl⟩

set_option maxHeartbeats 1000000 in
/-- One instruction of the function at block p. -/
theorem checkIns_any (p k : Nat) (sa : Option Addr) (n c : Nat) (l : List (Int × Int)) (w : World) {a b : Addr} {B : Nat} (L : Laid a b B w) (hk : k < n) (hc : w.cell? ⟨p, 2, none⟩ = some (.slice sa n c)) (h : Inss w sa n c l) :
    Calls Tryz.prog 133 #[.int .i64 k, .pointer (some ⟨p, 0, none⟩)] w fun e w' => ((mayB (l.getD k (0, 0)).1 (l.getD k (0, 0)).2 = true ∧ e = .returned .nilIface) ∨ (mayB (l.getD k (0, 0)).1 (l.getD k (0, 0)).2 = false ∧ Bad a b e)) ∧ Below w.heap.size w w' := by
  have c0 := L.form
  have hr := h.room
  have hcp := h.cap
  obtain ⟨b1, o1, x1, y1, rfl, e1, d1, d2⟩ := h.at k hk
  rw [e1]
  clear L h e1
  go_enter Tryz.func133, Tryz.ntmps133
  go_wp2_with fail
  refine (insMay_any _ _ _).mono ?_
  rintro e w1 ⟨rfl, hb⟩
  have c1 := kept_cell hb c0
  have HB := hid hb
  clear hb
  cases hm : mayB x1 y1
  · go_wp2_with fail
    go_ret
    exact ⟨.inr ⟨hm, _, a, 0, rfl, .leaf a, .inl rfl⟩, HB.out⟩
  · go_wp2_with fail
    go_ret
    exact ⟨.inl ⟨hm, rfl⟩, HB.out⟩

theorem enter_checkIns : ∀ args w, (callFunc 133 args).run Tryz.prog w = .ok (.enter 133 args) w := enters_of Tryz.func133 (by kernel_rfl) rfl

theorem eachIns_any (p : Nat) (name : ByteArray) (hname : name.size ≤ 100) (sa : Option Addr) (n c : Nat) (l : List (Int × Int)) (W : World) {a b : Addr} {B : Nat} (L : Laid a b B W) (hn : n ≤ 64)
    (hc : W.cell? ⟨p, 2, none⟩ = some (.slice sa n c)) (h : Inss W sa n c l) :
    Calls Tryz.prog 118 #[.string name, .int .i64 n, .func (.func 133) #[] #[.pointer (some ⟨p, 0, none⟩)]] W fun e u => (((l.all fun q => mayB q.1 q.2) = true ∧ e = .returned .nilIface) ∨ ((l.all fun q => mayB q.1 q.2) = false ∧ Bad a b e)) ∧ Below W.heap.size W u := by
  have hl := h.len
  refine (each_any name hname n (by omega) 133 _ enter_checkIns (a := a) (b := b) (B := B) (fun k u => ((l.take k).all fun q => mayB q.1 q.2) = true ∧ Below W.heap.size W u) (fun _ u => (l.all fun q => mayB q.1 q.2) = false ∧ Below W.heap.size W u) W ⟨by simp, Below.refl _ _⟩ (fun k u hu => L.kept (hu.2.mono L.size)) (fun k u u' hu hb => ⟨hu.1, kt hu.2 hb⟩) ?_).mono ?_
  · intro k u hk hu
    refine (checkIns_any p k sa n c l u (L.kept (hu.2.mono L.size)) hk (kept_cell hu.2 hc) (h.kept hu.2)).mono ?_
    rintro e u' ⟨⟨ha, rfl⟩ | ⟨ha, v, x, m, rfl, hch, hx⟩, hb⟩
    · exact .inl ⟨rfl, all_take_step (d := (0, 0)) (by omega) hu.1 ha, kt hu.2 hb⟩
    · exact .inr ⟨v, x, m, rfl, hch, hx, all_not_at (d := (0, 0)) (by omega) ha, kt hu.2 hb⟩
  · rintro e u (⟨rfl, ha, hb⟩ | ⟨k, v, x, m, hk, rfl, hch, hx, ha, hb⟩)
    · exact ⟨.inl ⟨all_take_all (by omega) ha, rfl⟩, hb⟩
    · exact ⟨.inr ⟨ha, v, x, m, rfl, hch, hx⟩, hb⟩

theorem Laid.alloc {a b : Addr} {B : Nat} {w : World} (L : Laid a b B w) (o : Obj) : Laid a b B (w.alloc o) := L.kept (Below.alloc (Below.refl _ _) L.size o)

set_option maxHeartbeats 2000000 in
theorem checkFunc_any (x y : Int) (sa : Option Addr) (n c : Nat) (l : List (Int × Int)) (w : World) {a b : Addr} {B : Nat} (L : Laid a b B w) (h : Inss w sa n c l) :
    Calls Tryz.prog 120 #[.agg #[.int .i64 x, .int .i64 y, .slice sa n c]] w fun e w' => ((fnB (x, y, l) = true ∧ e = .returned .nilIface) ∨ (fnB (x, y, l) = false ∧ Bad a b e)) ∧ Below w.heap.size w w' := by
  have LN := hid h.len
  have hr := h.room
  have hcp := h.cap
  have LL := hid (L.alloc (.cells #[.int .i64 x, .int .i64 y, .slice sa n c] 51))
  have HI := hid h
  clear L h
  by_cases k1 : x < 0 ∨ 4 < x
  · go_enter Tryz.func120, Tryz.ntmps120
    go_wp2_with fail
    refine (bounds_bad _ _ _ _ _ LL.out k1).mono ?_
    rintro e w1 ⟨⟨v, rfl, hbad⟩, rfl⟩
    go_wp2_with fail
    go_ret
    exact ⟨.inr ⟨fnB_args (by omega), hbad⟩, by go_grown⟩
  by_cases k2 : y < x ∨ 8 < y
  · go_enter Tryz.func120, Tryz.ntmps120
    go_wp2_with fail
    refine (bounds_ok _ _ _ _ _ (by omega) (by omega)).mono ?_
    rintro e w1 ⟨rfl, rfl⟩
    go_wp2_with fail
    refine (bounds_bad _ _ _ _ _ LL.out k2).mono ?_
    rintro e w1 ⟨⟨v, rfl, hbad⟩, rfl⟩
    go_wp2_with fail
    go_ret
    exact ⟨.inr ⟨fnB_args (by omega), hbad⟩, by go_grown⟩
  by_cases k3 : (n : Int) < 1 ∨ 64 < (n : Int)
  · go_enter Tryz.func120, Tryz.ntmps120
    go_wp2_with fail
    refine (bounds_ok _ _ _ _ _ (by omega) (by omega)).mono ?_
    rintro e w1 ⟨rfl, rfl⟩
    go_wp2_with fail
    refine (bounds_ok _ _ _ _ _ (by omega) (by omega)).mono ?_
    rintro e w1 ⟨rfl, rfl⟩
    go_wp2_with fail
    refine (bounds_bad _ _ _ _ _ LL.out k3).mono ?_
    rintro e w1 ⟨⟨v, rfl, hbad⟩, rfl⟩
    go_wp2_with fail
    go_ret
    exact ⟨.inr ⟨fnB_code (codeB_short (by have := LN.out; omega)), hbad⟩, by go_grown⟩
  go_enter Tryz.func120, Tryz.ntmps120
  go_wp2_with fail
  refine (bounds_ok _ _ _ _ _ (by omega) (by omega)).mono ?_
  rintro e w1 ⟨rfl, rfl⟩
  go_wp2_with fail
  refine (bounds_ok _ _ _ _ _ (by omega) (by omega)).mono ?_
  rintro e w1 ⟨rfl, rfl⟩
  go_wp2_with fail
  refine (bounds_ok _ _ _ _ _ (by omega) (by omega)).mono ?_
  rintro e w1 ⟨rfl, rfl⟩
  go_wp2_with fail
  refine (eachIns_any w.heap.size _ (by decide) sa n c l _ LL.out (by omega) (by simp [go_sem]) (HI.out.kept (by go_grown))).mono ?_
  rintro e u ⟨⟨ha, rfl⟩ | ⟨ha, v, x', m, rfl, hc, hx⟩, hb⟩
  · go_wp2_with fail
    go_ret
    exact ⟨.inl ⟨fnB_yes (by omega) (by omega) (by omega) (by omega) (codeB_yes (by have := LN.out; omega) ha), rfl⟩, kt (by go_grown) hb⟩
  · obtain ⟨t, z, rfl⟩ := hc.iface
    have HC := hid hc
    clear hc
    go_wp2_with fail
    go_ret
    exact ⟨.inr ⟨fnB_code (codeB_not ha), _, x', m, rfl, HC.out, hx⟩, kt (by go_grown) hb⟩

set_option maxHeartbeats 2000000 in
/-- One function of the program at block p. -/
theorem checkFn_any (p k : Nat) (sa : Option Addr) (n c : Nat) (l : List Fn) (w : World) {a b : Addr} {B : Nat} (L : Laid a b B w) (hk : k < n) (hc : w.cell? ⟨p, 0, none⟩ = some (.slice sa n c)) (h : Fns w sa n c l) :
    Calls Tryz.prog 119 #[.int .i64 k, .pointer (some ⟨p, 0, none⟩)] w fun e w' => ((fnB (l.getD k noFn) = true ∧ e = .returned .nilIface) ∨ (fnB (l.getD k noFn) = false ∧ Bad a b e)) ∧ Below w.heap.size w w' := by
  have hr := h.room
  have hcp := h.cap
  obtain ⟨b1, o1, x1, y1, a1, n1, m1, l1, rfl, e1, d1, d2, d3, i1⟩ := h.at k hk
  rw [e1]
  have LL := hid L
  clear L h e1
  go_enter Tryz.func119, Tryz.ntmps119
  go_wp2_with fail
  refine (checkFunc_any _ _ _ _ _ l1 _ LL.out i1).mono ?_
  rintro e u ⟨⟨ha, rfl⟩ | ⟨ha, v, x', m, rfl, hc, hx⟩, hb⟩
  · go_wp2_with fail
    go_ret
    exact ⟨.inl ⟨ha, rfl⟩, hb⟩
  · obtain ⟨t, z, rfl⟩ := hc.iface
    have HC := hid hc
    clear hc
    go_wp2_with fail
    go_ret
    exact ⟨.inr ⟨ha, _, x', m, rfl, HC.out, hx⟩, hb⟩

theorem enter_checkFn : ∀ args w, (callFunc 119 args).run Tryz.prog w = .ok (.enter 119 args) w := enters_of Tryz.func119 (by kernel_rfl) rfl

theorem eachFn_any (p : Nat) (name : ByteArray) (hname : name.size ≤ 100) (sa : Option Addr) (n c : Nat) (l : List Fn) (W : World) {a b : Addr} {B : Nat} (L : Laid a b B W) (hn : n ≤ 64)
    (hc : W.cell? ⟨p, 0, none⟩ = some (.slice sa n c)) (h : Fns W sa n c l) :
    Calls Tryz.prog 118 #[.string name, .int .i64 n, .func (.func 119) #[] #[.pointer (some ⟨p, 0, none⟩)]] W fun e u => (((l.all fnB) = true ∧ e = .returned .nilIface) ∨ ((l.all fnB) = false ∧ Bad a b e)) ∧ Below W.heap.size W u := by
  have hl := h.len
  refine (each_any name hname n (by omega) 119 _ enter_checkFn (a := a) (b := b) (B := B) (fun k u => ((l.take k).all fnB) = true ∧ Below W.heap.size W u) (fun _ u => (l.all fnB) = false ∧ Below W.heap.size W u) W ⟨by simp, Below.refl _ _⟩ (fun k u hu => L.kept (hu.2.mono L.size)) (fun k u u' hu hb => ⟨hu.1, kt hu.2 hb⟩) ?_).mono ?_
  · intro k u hk hu
    refine (checkFn_any p k sa n c l u (L.kept (hu.2.mono L.size)) hk (kept_cell hu.2 hc) (h.kept hu.2)).mono ?_
    rintro e u' ⟨⟨ha, rfl⟩ | ⟨ha, v, x, m, rfl, hch, hx⟩, hb⟩
    · exact .inl ⟨rfl, all_take_step (d := noFn) (by omega) hu.1 ha, kt hu.2 hb⟩
    · exact .inr ⟨v, x, m, rfl, hch, hx, all_not_at (d := noFn) (by omega) ha, kt hu.2 hb⟩
  · rintro e u (⟨rfl, ha, hb⟩ | ⟨k, v, x, m, hk, rfl, hch, hx, ha, hb⟩)
    · exact ⟨.inl ⟨all_take_all (by omega) ha, rfl⟩, hb⟩
    · exact ⟨.inr ⟨ha, v, x, m, rfl, hch, hx⟩, hb⟩

set_option maxHeartbeats 2000000 in
theorem check_any (sa : Option Addr) (n c : Nat) (l : List Fn) (w : World) {a b : Addr} {B : Nat} (L : Laid a b B w) (h : Fns w sa n c l) :
    Calls Tryz.prog 98 #[.agg #[.slice sa n c]] w fun e w' => ((packsB l = true ∧ e = .returned .nilIface) ∨ (packsB l = false ∧ Bad a b e)) ∧ Below w.heap.size w w' := by
  have LN := hid h.len
  have hr := h.room
  have hcp := h.cap
  have LL := hid (L.alloc (.cells #[.slice sa n c] 24))
  have HI := hid h
  clear L h
  by_cases k3 : (n : Int) < 1 ∨ 8 < (n : Int)
  · go_enter Tryz.func98, Tryz.ntmps98
    go_wp2_with fail
    refine (bounds_bad _ _ _ _ _ LL.out k3).mono ?_
    rintro e w1 ⟨⟨v, rfl, hbad⟩, rfl⟩
    go_wp2_with fail
    go_ret
    exact ⟨.inr ⟨packsB_short (by have := LN.out; omega), hbad⟩, by go_grown⟩
  go_enter Tryz.func98, Tryz.ntmps98
  go_wp2_with fail
  refine (bounds_ok _ _ _ _ _ (by omega) (by omega)).mono ?_
  rintro e w1 ⟨rfl, rfl⟩
  go_wp2_with fail
  refine (eachFn_any w.heap.size _ (by decide) sa n c l _ LL.out (by omega) (by simp [go_sem]) (HI.out.kept (by go_grown))).mono ?_
  rintro e u ⟨⟨ha, rfl⟩ | ⟨ha, v, x', m, rfl, hc, hx⟩, hb⟩
  · go_wp2_with fail
    go_ret
    exact ⟨.inl ⟨packsB_yes (by have := LN.out; omega) ha, rfl⟩, kt (by go_grown) hb⟩
  · obtain ⟨t, z, rfl⟩ := hc.iface
    have HC := hid hc
    clear hc
    go_wp2_with fail
    go_ret
    exact ⟨.inr ⟨packsB_not ha, _, x', m, rfl, HC.out, hx⟩, kt (by go_grown) hb⟩

end Go.Proofs.YtaimpljkbpnigaaGreatDoor

namespace Go.Proofs.YtaimpljkbpnigaaGreatDoor
open Go.RowKit
set_option linter.unusedVariables false

def szA (k : Int) : Nat := if k = 0 then 4 else if smallB k = true then 1 else 0
theorem szA_le (k : Int) : szA k ≤ 4 := by unfold szA; split; omega; split <;> omega
theorem ret_i {x y : Int} (h : x = y) : Ending.returned (.int .i64 x) = .returned (.int .i64 y) := by rw [h]

set_option maxHeartbeats 1000000 in
theorem sizeOfA_any (k : Int) (w : World) :
    Calls Tryz.prog 101 #[.int .i64 k] w fun e w' => e = .returned (.int .i64 (szA k)) ∧ w' = w := by
  by_cases h0 : k = 0
  · subst h0
    go_enter Tryz.func101, Tryz.ntmps101
    go_wp2
    go_ret
    exact ⟨rfl, rfl⟩
  by_cases h1 : k = 1
  · subst h1
    go_enter Tryz.func101, Tryz.ntmps101
    go_wp2
    go_ret
    exact ⟨rfl, rfl⟩
  by_cases h2 : k = 2
  · subst h2
    go_enter Tryz.func101, Tryz.ntmps101
    go_wp2
    go_ret
    exact ⟨rfl, rfl⟩
  by_cases h3 : k = 12
  · subst h3
    go_enter Tryz.func101, Tryz.ntmps101
    go_wp2
    go_ret
    exact ⟨rfl, rfl⟩
  by_cases h4 : k = 13
  · subst h4
    go_enter Tryz.func101, Tryz.ntmps101
    go_wp2
    go_ret
    exact ⟨rfl, rfl⟩
  by_cases h5 : k = 14
  · subst h5
    go_enter Tryz.func101, Tryz.ntmps101
    go_wp2
    go_ret
    exact ⟨rfl, rfl⟩
  have e0 : (k == 0) = false := by simp [h0]
  have e1 : (k == 1) = false := by simp [h1]
  have e2 : (k == 2) = false := by simp [h2]
  have e3 : (k == 12) = false := by simp [h3]
  have e4 : (k == 13) = false := by simp [h4]
  have e5 : (k == 14) = false := by simp [h5]
  have F : Hid ((0 : Int) = szA k) := by
    show (0 : Int) = szA k
    simp [szA, smallB, h0, h1, h2, h3, h4, h5]
  clear h0 h1 h2 h3 h4 h5
  go_enter Tryz.func101, Tryz.ntmps101
  go_wp2
  go_ret
  exact ⟨ret_i F.out, rfl⟩

/-- The k lowest bytes. -/
def lowB (x : Int) : Nat → List Int
  | 0 => []
  | k + 1 => lowB x k ++ [x / 256 ^ k % 256]
theorem lowB_len (x : Int) (k : Nat) : (lowB x k).length = k := by induction k with | zero => rfl | succ k ih => simp [lowB, ih]

set_option maxRecDepth 100000 in
set_option maxHeartbeats 2000000 in
theorem appendNumber_any (v : Value) (x : Int) (n base : Nat) (xs : List Int) (w : World) (hx0 : -2147483648 ≤ x) (hx1 : x ≤ 2147483647) (hn : n ≤ 4) (hxl : xs.length ≤ 3000) (hbase : base ≤ w.heap.size) (ho : w.ownsRow base 5 1 v xs.length (nums xs)) :
    Calls Tryz.prog 100 #[v, .int .i64 x, .int .i64 n] w fun e w' => ∃ v', e = .returned v' ∧ w'.ownsRow base 5 1 v' (xs ++ lowB x n).length (nums (xs ++ lowB x n)) ∧ Below base w w' := by
  obtain ⟨i0, hi, hz0, hz1, hz2⟩ := info_parts Tryz.infoByte
  go_enter Tryz.func100, Tryz.ntmps100
  go_wp2_with fail
  go_loopw [0, 1, 8] (fun v y i wr => ∃ k : Nat, k ≤ n ∧ i = .int .i64 k ∧ y = .int .i64 (x / 256 ^ k) ∧ wr.ownsRow base 5 1 v (xs ++ lowB x k).length (nums (xs ++ lowB x k)) ∧ Below base w wr) (fun _ _ i _ => n - (intOf i).toNat)
  case atStart => exact ⟨0, Nat.zero_le _, rfl, by simp, by simpa [lowB] using ho, Below.refl _ _⟩
  case round =>
    obtain ⟨k, hk, rfl, rfl, hor, hb⟩ := hrel
    have OR := hid hor
    have hs := hb.size
    have hlk := lowB_len x k
    have hl : (xs ++ lowB x k).length ≤ 3004 := by simp [hlk]; omega
    generalize hy : x / 256 ^ k = y
    have hy0 : -2147483648 ≤ y ∧ y ≤ 2147483647 := by
      rw [← hy]
      rcases (show k = 0 ∨ k = 1 ∨ k = 2 ∨ k = 3 ∨ k = 4 by omega) with rfl | rfl | rfl | rfl | rfl <;> simp <;> omega
    obtain ⟨hy0, hy1⟩ := hy0
    have HY := hid hy
    clear hor hy hlk
    by_cases hlt : k < n
    · go_wp2_with (at_builtin; go_must ((refine wpList_append_lies _ rfl _ _ 168 rfl base 5 i0 (.int .u8 0) 1 1 Tryz.underlying168 hi hz0 hz1 hz2 rfl (by decide) _ _ _ rfl (OR.out.alloc _) ⟨wr.heap.size, 0, none⟩ 1 1 [.int .u8 (y % 256)] rfl rfl (news_new rfl _ _) (nums_one [y % 256]) (by decide) (by unfold maxLen; omega) (by omega) (by simp; omega) (wr.heap.size + 1) (by simp) ?_; intro g6 cap6 w6 ho6 hg6 hat6 hlt6)))
      have hg : (wr.alloc (.cells #[.int .u8 (y % 256)] 5)).grownBy w6 u0.ownBlock := hg6
      have ho := nums_grow (xs := xs ++ lowB x k) (ys := [y % 256]) ho6 rfl rfl
      refine ⟨⟨k + 1, by omega, by go_num, ?_, ?_, app_below (by go_grown) hg OR.out.lt (Nat.le_refl _) (by simp; omega)⟩, by simp [intOf]; omega⟩
      · rw [← HY.out, Int.pow_succ, Int.ediv_ediv_of_nonneg (Int.pow_nonneg (by decide))]
      · rw [← List.length_append, show lowB x (k + 1) = lowB x k ++ [y % 256] by rw [← HY.out]; rfl, ← List.append_assoc]
        exact ho
    · go_wp2_with fail
      go_ret
      have hkn : k = n := by omega
      subst hkn
      exact ⟨_, rfl, OR.out, hb⟩

end Go.Proofs.YtaimpljkbpnigaaGreatDoor

namespace Go.Proofs.YtaimpljkbpnigaaGreatDoor
open Go.RowKit
set_option linter.unusedVariables false

theorem insBytes_low {x y : Int} (h : mayB x y = true) : insBytes (x, y) = [x] ++ lowB y (szA x) := by
  by_cases h0 : x = 0
  · subst h0
    simp [insBytes, szA, lowB, c0, c1, c2, c3]
  · cases hs : smallB x
    · rw [insBytes_else h0 hs]; simp [szA, h0, hs, lowB]
    · obtain ⟨r0, r63⟩ := small_bd h hs
      rw [insBytes_small h0 hs]; simp [szA, h0, hs, lowB]; omega
theorem may_num {x y : Int} (h : mayB x y = true) : -2147483648 ≤ y ∧ y ≤ 2147483647 := by
  by_cases h0 : x = 0
  · subst h0
    rw [may0] at h
    simp [isNum] at h
    omega
  · cases hs : smallB x
    · have hy : y = 0 := by
        simp [smallB] at hs
        unfold mayB at h
        rw [if_neg h0, if_neg (by omega), if_neg (by omega), if_neg (by omega)] at h
        simp at h
        exact h.2.2
      omega
    · have := small_bd h hs; omega

theorem cells_of_new {w : World} {H : Nat} (hH : w.heap.size = H) (C : Array Value) (t : TypeId) (f : Nat × Nat) (o : Obj) : ∀ b, some (⟨H, 0, none⟩ : Addr) = some b → ∀ j u, C.toList[j]? = some u → ((w.alloc (.cells C t f)).alloc o).cell? (b.add j) = some u := by
  intro b hb j u hu
  cases hb
  subst hH
  rw [Below.cell (Below.alloc (Below.refl (w.alloc (.cells C t f)).heap.size _) (Nat.le_refl _) o) (by unfold Addr.add; split <;> simp)]
  exact World.news_of_block (heap_alloc_new w _) j u (by simpa using hu)

set_option maxHeartbeats 1000000 in
theorem put_bad (sa : Option Addr) (n c : Nat) (l : List Fn) (w : World) {a b : Addr} (L : Laid a b w.heap.size w) (h : Fns w sa n c l) (hp : packsB l = false) :
    Calls Tryz.prog 83 #[.agg #[.slice sa n c]] w fun e w' => e = .returned (.tuple #[.string ByteArray.empty, .int .i64 300]) ∧ Below w.heap.size w w' := by
  go_enter Tryz.func83, Tryz.ntmps83
  go_wp2_with fail
  refine (check_any _ _ _ l _ (L.alloc _) (h.kept (by go_grown))).mono ?_
  rintro e w1 ⟨⟨ha, _⟩ | ⟨_, v, x, m, rfl, hc, hx⟩, b1⟩
  · rw [hp] at ha; cases ha
  obtain ⟨t, y, rfl⟩ := hc.iface
  have HC := hid hc
  have B1 := hid b1
  have L1 := hid ((L.alloc (.cells #[.slice sa n c] 24)).kept (b1.mono (by simp)))
  clear hc b1 L h
  go_wp2_with fail
  refine (numberOf_any L1.out _ x m HC.out hx).mono ?_
  rintro e w2 ⟨rfl, b2⟩
  have B2 := hid b2
  clear b2
  go_wp2_with fail
  go_ret2
  exact ⟨rfl, kt (kt (by go_grown) B1.out) B2.out⟩

set_option maxRecDepth 100000 in
set_option maxHeartbeats 4000000 in
theorem put_good (sa : Option Addr) (n c : Nat) (l : List Fn) (w : World) {a b : Addr} (L : Laid a b w.heap.size w) (h : Fns w sa n c l) (hp : packsB l = true) :
    Calls Tryz.prog 83 #[.agg #[.slice sa n c]] w fun e w' => e = .returned (.tuple #[.string (strOfNums (putBytes l)), .int .i64 0]) ∧ Below w.heap.size w w' := by
  obtain ⟨i0, hi, hz0, hz1, hz2⟩ := info_parts Tryz.infoByte
  have LN := hid h.len
  have hn : 1 ≤ n ∧ n ≤ 8 := by have := h.len; simp [packsB] at hp; omega
  obtain ⟨hn1, hn8⟩ := hn
  have hcap := h.cap
  go_enter Tryz.func83, Tryz.ntmps83
  go_wp2_with fail
  refine (check_any _ _ _ l _ (L.alloc _) (h.kept (by go_grown))).mono ?_
  rintro e w1 ⟨⟨_, rfl⟩ | ⟨ha, _⟩, b1⟩
  rotate_left
  · rw [hp] at ha; cases ha
  have g0 := kept_cell b1 (b := w.heap.size) (o := 0) (v := .slice sa n c) (by simp [go_sem])
  have hb := kt (Below.alloc (Below.refl _ _) (Nat.le_refl _) _) b1
  have hs := hb.size
  have hs1 := lt_of_cell g0
  clear b1 L
  have hcv := fun (w : World) (C : Array Value) (n c : Nat) => Lib.run_convert_bytes_const (P := Tryz.prog) w 168 5 C n c Tryz.underlying168 Tryz.underlying5
  go_wp2_with (at_builtin; go_must ((refine wpList_append_grows _ rfl _ _ 168 rfl 5 i0 (.int .u8 0) 1 1 Tryz.underlying168 hi hz0 hz1 hz2 rfl (by decide) _ 3 3 [.int .u8 84, .int .u8 105, .int .u8 107] rfl (fun h => (by cases h)) rfl (cells_of_new rfl _ _ _ _) ⟨w1.heap.size + 1, 0, none⟩ 1 1 [.int .u8 n] rfl rfl (news_new (by simp) _ _) (nums_one [(n : Int)]) (by decide) (by unfold maxLen; omega) (by omega) ?_; intro v6 w6 ho6 hg6; have g6 := hg6.cell (kept_cell (by go_grown) g0) (by intro e; cases e))))
  have hs6 := hg6.size
  have hown0 := owns_base ho6 (base' := w.heap.size + 1) (by simp; omega)
  have hb6 : Below w.heap.size w w6 := Below.grown (kt hb (by go_grown)) hg6 (by simp; omega) (fun k hk => by cases hk)
  clear ho6 hg6 g6 g0 hb hs
  go_loopw [5, 27] (fun v i wr => ∃ q : Nat, q ≤ n ∧ i = .int .i64 q ∧ wr.ownsRow (w.heap.size + 1) 5 1 v ([84, 105, 107, (n : Int)] ++ fnsBytes (l.take q)).length (nums ([84, 105, 107, (n : Int)] ++ fnsBytes (l.take q))) ∧ Below w.heap.size w wr ∧ w.heap.size < wr.heap.size) (fun _ i _ => n - (intOf i).toNat)
  case atStart => exact ⟨0, Nat.zero_le _, rfl, by simpa [fnsBytes, nums] using hown0, hb6, by simp at hs6; omega⟩
  case round =>
    obtain ⟨wo, hwo⟩ : ∃ wo : World, wo = wr := ⟨wr, rfl⟩
    subst hwo
    obtain ⟨q, hq, rfl, ho, hb, hsz⟩ := hrel
    have hlq := fnsBytes_len hp q
    generalize hxs : [84, 105, 107, (n : Int)] ++ fnsBytes (l.take q) = xs at ho
    have hxl : xs.length ≤ 2588 := by rw [← hxs]; simp; omega
    have XS := hid hxs
    clear hxs hown0 hlq hb6
    by_cases hlt : q < n
    · obtain ⟨b1, o1, x1, y1, a1, n1, m1, l1, rfl, e1, k1, k2, k3, i1⟩ := h.at q hlt
      replace k1 := kept_cell hb k1
      replace k2 := kept_cell hb k2
      replace k3 := kept_cell hb k3
      have hf : fnB (x1, y1, l1) = true := fnB_of hp (by have := LN.out; omega) e1
      have hbd := fnB_bd hf
      have L1 := hid i1.len
      obtain ⟨x0, x4, xy, y8, c1', c64⟩ := hbd
      have hn1' : 1 ≤ n1 := by have := L1.out; omega
      have hn64 : n1 ≤ 64 := by have := L1.out; omega
      have E1 := hid e1
      clear e1
      have hs := hb.size
      have z1 := World.new_ne _ _ k1
      have HF := hid hf
      have HO := hid ho
      have OL := hid ho.lt
      clear hf ho c1' c64
      go_wp2_with (at_builtin; go_must ((refine wpList_append_lies _ rfl _ _ 168 rfl (w.heap.size + 1) 5 i0 (.int .u8 0) 1 1 Tryz.underlying168 hi hz0 hz1 hz2 rfl (by decide) _ _ _ rfl ((HO.out.alloc _).alloc _) ⟨wo.heap.size + 1, 0, none⟩ 3 3 [.int .u8 x1, .int .u8 y1, .int .u8 n1] rfl rfl (news_new (by simp) _ _) (nums_one [x1, y1, (n1 : Int)]) (by decide) (by unfold maxLen; omega) (by omega) (by simp; omega) (wo.heap.size + 2) (by simp) ?_; intro g6 cap6 w6 ho6 hg6 hat6 hlt6; have f6 : w6.cell? ⟨wo.heap.size, 2, none⟩ = some (.slice a1 n1 m1) := app_cell hg6 OL.out (by simp [go_sem]) (.inr (Nat.le_refl _)))))
      have hb6 : Below w.heap.size w w6 := app_below (by go_grown) hg6 OL.out (by omega) (by simp; omega)
      have ho6' := nums_grow (ys := [x1, y1, (n1 : Int)]) ho6 rfl rfl
      generalize hys : xs ++ [x1, y1, (n1 : Int)] = ys at ho6'
      have hyl : ys.length ≤ 2591 := by rw [← hys]; simp; omega
      have YS := hid hys
      have hsz6 : w.heap.size < w6.heap.size := by have := hg6.size; simp at this; omega
      clear ho6 hg6 hys hat6 f6
      go_loopw [5, 47] (fun v j wi => ∃ k : Nat, k ≤ n1 ∧ j = .int .i64 k ∧ wi.ownsRow (w.heap.size + 1) 5 1 v (ys ++ codeBytes (l1.take k)).length (nums (ys ++ codeBytes (l1.take k))) ∧ Below w.heap.size w wi ∧ w.heap.size < wi.heap.size) (fun _ j _ => n1 - (intOf j).toNat)
      case atStart => exact ⟨0, Nat.zero_le _, rfl, by simpa [codeBytes] using ho6', hb6, hsz6⟩
      case round =>
        obtain ⟨k, hk, rfl, hoi, hbi, hszi⟩ := hrel
        have hcl := codeBytes_len (l1.take k)
        have hcl2 : (l1.take k).length ≤ 64 := by rw [List.length_take]; have := L1.out; omega
        generalize hzs : ys ++ codeBytes (l1.take k) = zs at hoi
        have hzl : zs.length ≤ 2911 := by rw [← hzs]; simp; omega
        have ZS := hid hzs
        have OI := hid hoi
        have OLi := hid hoi.lt
        clear hzs hoi hcl hcl2
        by_cases hlk : k < n1
        · obtain ⟨b2, o2, p, r, rfl, e2, d1, d2⟩ := i1.at k hlk
          have hm : mayB p r = true := mayB_of HF.out (by have := L1.out; omega) e2
          obtain ⟨hk0, hk16⟩ := may_kind hm
          obtain ⟨hr0, hr1⟩ := may_num hm
          replace d1 := kept_cell hbi d1
          replace d2 := kept_cell hbi d2
          have E2 := hid e2
          have HM := hid hm
          have hsl := szA_le p
          clear e2 hm
          have hsb := hbi.size
          have z2 := World.new_ne _ _ d1
          go_wp2_with (at_builtin; go_must ((refine wpList_append_lies _ rfl _ _ 168 rfl (w.heap.size + 1) 5 i0 (.int .u8 0) 1 1 Tryz.underlying168 hi hz0 hz1 hz2 rfl (by decide) _ _ _ rfl ((OI.out.alloc _).alloc _) ⟨wr.heap.size + 1, 0, none⟩ 1 1 [.int .u8 p] rfl rfl (news_new (by simp) _ _) (nums_one [p]) (by decide) (by unfold maxLen; omega) (by omega) (by simp; omega) (wr.heap.size + 2) (by simp) ?_; intro g cap w6 ho6 hg6 hat hlt6; have q1 := app_cell hg6 OLi.out (b := wr.heap.size) (o := 0) (u := .int .i64 p) (by simp [go_sem]) (.inr (Nat.le_refl _)); have q2 := app_cell hg6 OLi.out (b := wr.heap.size) (o := 1) (u := .int .i64 r) (by simp [go_sem]) (.inr (Nat.le_refl _)); have hz6 : wr.heap.size + 2 ≤ w6.heap.size := (by have := hg6.size; simpa using this); have P := hid (And.intro (nums_grow (ys := [p]) ho6 rfl rfl) (app_below (B := w.heap.size) (w := w) (by go_grown) hg6 OLi.out (by omega) (by simp; omega))); clear ho6 hg6 hat hlt6)))
          have CN := hid (appendNumber_any (.slice (some ⟨g, 0, none⟩) (zs.length + 1) cap) r (szA p) (w.heap.size + 1) (zs ++ [p]) w6.drew hr0 hr1 hsl (by simp; omega) (by show w.heap.size + 1 ≤ w6.heap.size; omega) P.out.1)
          go_region_with (first | (go_at_call 101; refine (sizeOfA_any _ _).mono ?_; rintro e w' ⟨rfl, rfl⟩) | (go_at_call 100; refine CN.out.mono ?_; rintro e u8 ⟨v8, rfl, ho8, hb8⟩))
          all_goals
            go_wp2_with fail
            go_roundw
            case rel =>
              have hb9 : Below w.heap.size w6 u8 := ⟨hb8.os, hb8.tape, hb8.output, hb8.size, fun k hk => hb8.block k (by omega)⟩
              have hs9 : w6.heap.size ≤ u8.heap.size := hb8.size
              exact ⟨k + 1, by omega, by go_num, put_row ZS.out (by have := L1.out; omega) E2.out (by rw [insBytes_low HM.out, ← List.append_assoc]; exact ho8), P.out.2.trans hb9, by omega⟩
            case measure => simp [intOf]; omega
        · have hkn : k = n1 := by omega
          clear h i1
          go_wp2_with fail
          go_roundw
          case rel =>
            have hrow : zs = [84, 105, 107, (n : Int)] ++ fnsBytes (l.take (q + 1)) := by
              rw [take_snoc_getD (by have := LN.out; omega) E1.out, fnsBytes_snoc, ← List.append_assoc, XS.out, ← ZS.out, ← YS.out, List.take_of_length_le (by have := L1.out; omega)]
              simp [fnBytes, L1.out]
            exact ⟨q + 1, by omega, by go_num, hrow ▸ OI.out, hbi, hszi⟩
          case measure => simp [intOf]; omega
    · have hpos : 0 < xs.length := by rw [← XS.out]; simp
      obtain ⟨g, cap, rfl, _⟩ := ho.form hpos
      have hrun := run_convert_bytes_arg (P := Tryz.prog) wo 168 5 Tryz.underlying168 Tryz.underlying5 g 0 xs.length cap xs rfl (nums_cell ho) 9 Tryz.underlying9
      clear h
      go_wp2_with fail
      go_ret2
      have hx : strOfNums xs = strOfNums (putBytes l) := by
        rw [← XS.out, List.take_of_length_le (by have := LN.out; omega), putBytes, ← LN.out]
      exact ⟨ret_si hx, hb⟩

theorem put_any (sa : Option Addr) (n c : Nat) (l : List Fn) (w : World) {a b : Addr} (L : Laid a b w.heap.size w) (h : Fns w sa n c l) :
    Calls Tryz.prog 83 #[.agg #[.slice sa n c]] w fun e w' => e = .returned (.tuple #[.string (putS l), .int .i64 (putE l)]) ∧ Below w.heap.size w w' := by
  cases hp : packsB l
  · have := put_bad sa n c l w L h hp
    simpa [putS, putE, hp] using this
  · have := put_good sa n c l w L h hp
    simpa [putS, putE, hp] using this

end Go.Proofs.YtaimpljkbpnigaaGreatDoor
