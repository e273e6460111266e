/- The package's errors: two sentinels as their variables hold them, chains of faults around one of them, and what errors.Is and numberOf return for such a chain. -/
import Derived.Test.YtcngmkbgcfhmdaaGreatDoorIns
import Derived.Test.YtcngmkbgcfhmdaaGreatDoorChecked
import Derived.WalkKit
import Derived.LaidEql
import Derived.Stop.Asserts
import Derived.RowKitTokens
import Derived.Lib.LaidTab
import Derived.Lib.ItoaNum
namespace Go.Proofs.YtcngmkbgcfhmdaaGreatDoor
open Go.RowKit Go.Extern.Stop Go.Stop Go.Extern
set_option linter.unusedVariables false

/-- What the package's variables hold (blocks below B): errForm points to a, errEnd to b, the library's table of powers. -/
structure Laid (a b : Addr) (B : Nat) (w : World) : Prop where
  low : 1 < B ∧ 2 < B ∧ 3 < B
  size : B ≤ w.heap.size
  form : w.cell? ⟨1, 0, none⟩ = some (.iface 226 (.pointer (some a)))
  fend : w.cell? ⟨2, 0, none⟩ = some (.iface 226 (.pointer (some b)))
  ne : a ≠ b
  la : a.block < B
  lb : b.block < B
  ra : ∃ c t, w.heap[a.block]? = some (.cells c t (0, 0))
  rb : ∃ c t, w.heap[b.block]? = some (.cells c t (0, 0))
  tab : Lib.TabIs Tryz.prog w "internal/strconv.uint64pow10" .u64 Lib.pow10Tab

theorem Tryz.gPow : Tryz.prog.globalNamed "internal/strconv.uint64pow10" = some 3 := by kernel_rfl

theorem Laid.kept {a b : Addr} {B : Nat} {w w' : World} (h : Laid a b B w) (hb : Below B w w') : Laid a b B w' := by
  obtain ⟨l1, l2, l3⟩ := h.low
  refine ⟨h.low, ?_, ?_, ?_, h.ne, h.la, h.lb, ?_, ?_, ?_⟩
  · have := hb.size; have := h.size; omega
  · rw [hb.cell (p := ⟨1, 0, none⟩) l1]; exact h.form
  · rw [hb.cell (p := ⟨2, 0, none⟩) l2]; exact h.fend
  · obtain ⟨c, t, e⟩ := h.ra; exact ⟨c, t, by rw [hb.block _ h.la]; exact e⟩
  · obtain ⟨c, t, e⟩ := h.rb; exact ⟨c, t, by rw [hb.block _ h.lb]; exact e⟩
  · have e := h.tab
    unfold Lib.TabIs World.var? at e ⊢
    rw [Tryz.gPow] at e ⊢
    simp only [Option.bind_some] at e ⊢
    rw [hb.block 3 l3]
    exact e
theorem Laid.mono {a b : Addr} {B B' : Nat} {w : World} (h : Laid a b B w) (hB : B ≤ B') (hs : B' ≤ w.heap.size) : Laid a b B' w :=
  ⟨⟨Nat.lt_of_lt_of_le h.low.1 hB, Nat.lt_of_lt_of_le h.low.2.1 hB, Nat.lt_of_lt_of_le h.low.2.2 hB⟩, hs, h.form, h.fend, h.ne, Nat.lt_of_lt_of_le h.la hB, Nat.lt_of_lt_of_le h.lb hB, h.ra, h.rb, h.tab⟩
theorem Laid.up {a b : Addr} {w w' : World} (h : Laid a b w.heap.size w) (hb : Below w.heap.size w w') : Laid a b w'.heap.size w' :=
  (h.kept hb).mono hb.size (Nat.le_refl _)

/-- A chain of n faults around a sentinel at x. -/
def ChainN : Nat → Value → Addr → Prop
  | 0, v, x => v = .iface 226 (.pointer (some x))
  | n + 1, v, x => ∃ s v', v = .iface 202 (.agg #[.string s, v']) ∧ ChainN n v' x
def Chain (v : Value) (x : Addr) (n : Nat) : Prop := ChainN n v x
theorem Chain.leaf (x : Addr) : Chain (.iface 226 (.pointer (some x))) x 0 := rfl
theorem Chain.wrap (s : ByteArray) (v : Value) (x : Addr) (n : Nat) (h : Chain v x n) : Chain (.iface 202 (.agg #[.string s, v])) x (n + 1) := ⟨s, v, rfl, h⟩
theorem Chain.iface {v : Value} {x : Addr} {n : Nat} (h : Chain v x n) : ∃ u y, v = .iface u y := by
  cases n with
  | zero => exact ⟨_, _, h⟩
  | succ n => obtain ⟨s, v', e, _⟩ := h; exact ⟨_, _, e⟩
/-- How many faults a value has around it, as far as k goes: the loop's measure. -/
def chainLen : Nat → Value → Nat
  | 0, _ => 0
  | k + 1, .iface _ (.agg a) => 1 + chainLen k (a.getD 1 .nilIface)
  | _ + 1, _ => 0
theorem chainLen_eq {n : Nat} : ∀ {v : Value} {x : Addr} {k : Nat}, Chain v x n → n ≤ k → chainLen k v = n := by
  induction n with
  | zero =>
    intro v x k h _
    have e : v = .iface 226 (.pointer (some x)) := h
    subst e
    cases k <;> rfl
  | succ n ih =>
    intro v x k h hk
    obtain ⟨s, v', e, h'⟩ := h
    subst e
    match k, hk with
    | k + 1, hk =>
      have := ih (k := k) h' (by omega)
      show 1 + chainLen k v' = n + 1
      omega

theorem Tryz.isTypeOf (v : Value) (w : World) : (callFunc 123 #[.iface 226 v]).run Tryz.prog w = .ok (.value (.iface 176 (.agg #[.pointer (some ⟨6, 226, none⟩)]))) w := by kernel_rfl
theorem Tryz.isComparable (w : World) : (callFunc 187 #[.agg #[.pointer (some ⟨6, 226, none⟩)]]).run Tryz.prog w = .ok (.value (.bool true)) w := by kernel_rfl
theorem Tryz.isMethodComparable (v : Value) (w : World) : (Go.method 359 176 v "Comparable").run Tryz.prog w = .ok (187, v) w := by kernel_rfl
theorem Tryz.isComp : (Tryz.prog.info? 226).map (·.comparable) = some true := by kernel_rfl
theorem Tryz.isSize : (Tryz.prog.info? 247).map (·.size) = some 1 := by kernel_rfl
theorem Tryz.noIsE (v : Value) (xT : TypeId) (w : World) : (Instr.typeAssert (.iface 226 v) xT 209 true).run Tryz.prog w = .ok (.tuple #[.nilIface, .bool false]) w := run_typeAssert_lacksB Tryz.underlying209 (by kernel_rfl) (by kernel_rfl) v xT w
theorem Tryz.noUnwrapE (v : Value) (xT : TypeId) (w : World) : (Instr.typeAssert (.iface 226 v) xT 184 true).run Tryz.prog w = .ok (.tuple #[.nilIface, .bool false]) w := run_typeAssert_lacksB Tryz.underlying184 (by kernel_rfl) (by kernel_rfl) v xT w
theorem Tryz.noUnwrapsE (v : Value) (xT : TypeId) (w : World) : (Instr.typeAssert (.iface 226 v) xT 186 true).run Tryz.prog w = .ok (.tuple #[.nilIface, .bool false]) w := run_typeAssert_lacksB Tryz.underlying186 (by kernel_rfl) (by kernel_rfl) v xT w
theorem Tryz.noIsW (v : Value) (xT : TypeId) (w : World) : (Instr.typeAssert (.iface 202 v) xT 209 true).run Tryz.prog w = .ok (.tuple #[.nilIface, .bool false]) w := run_typeAssert_lacksB Tryz.underlying209 (by kernel_rfl) (by kernel_rfl) v xT w
theorem Tryz.hasUnwrapW (v : Value) (xT : TypeId) (w : World) : (Instr.typeAssert (.iface 202 v) xT 184 true).run Tryz.prog w = .ok (.tuple #[.iface 202 v, .bool true]) w := run_typeAssert_hasB Tryz.underlying184 (by kernel_rfl) v xT w
theorem Tryz.methodUnwrap (v : Value) (w : World) : (Go.method 359 202 v "Unwrap").run Tryz.prog w = .ok (197, v) w := by kernel_rfl

theorem unwrap_any (s : ByteArray) (u : TypeId) (y : Value) (w : World) :
    Calls Tryz.prog 197 #[.agg #[.string s, .iface u y]] w fun e w' => e = .returned (.iface u y) ∧ Below w.heap.size w w' := by
  go_enter Tryz.func197, Tryz.ntmps197
  go_wp2
  go_ret
  exact ⟨rfl, by go_grown⟩

set_option maxRecDepth 1000000 in
set_option maxHeartbeats 2000000 in
theorem is_chain {w : World} (v : Value) (x t : Addr) (n : Nat) (hch : Chain v x n) (hx : ∃ c y, w.heap[x.block]? = some (.cells c y (0, 0))) (ht : ∃ c y, w.heap[t.block]? = some (.cells c y (0, 0))) :
    Calls Tryz.prog 142 #[v, .iface 226 (.pointer (some t)), .bool true] w fun e w' => e = .returned (.bool (decide (x = t))) ∧ Below w.heap.size w w' := by
  obtain ⟨i, hi, hcmp⟩ := Option.map_eq_some_iff.1 Tryz.isComp
  obtain ⟨j, hj, hjs⟩ := Option.map_eq_some_iff.1 Tryz.isSize
  obtain ⟨cx, yx, hx⟩ := hx
  obtain ⟨ct, yt, ht⟩ := ht
  have HX := hid hx
  have HT := hid ht
  have lx : x.block < w.heap.size := by
    rcases Nat.lt_or_ge x.block w.heap.size with h | h
    · exact h
    · rw [Array.getElem?_eq_none h] at hx; cases hx
  have lt : t.block < w.heap.size := by
    rcases Nat.lt_or_ge t.block w.heap.size with h | h
    · exact h
    · rw [Array.getElem?_eq_none h] at ht; cases ht
  clear hx ht
  have nE := Tryz.noIsE
  have uE := Tryz.noUnwrapE
  have vE := Tryz.noUnwrapsE
  have nW := Tryz.noIsW
  have uW := Tryz.hasUnwrapW
  have mU := Tryz.methodUnwrap
  go_enter Tryz.func142, Tryz.ntmps142
  go_wp2
  go_loopw [0] (fun E' wl => Below w.heap.size w wl ∧ ∃ m, m ≤ n ∧ Chain E' x m) (fun E' _ => chainLen n E')
  case atStart => exact ⟨Below.refl _ _, n, Nat.le_refl _, hch⟩
  case round =>
    obtain ⟨hb, m, hmn, hc'⟩ := hrel
    have hx' : wr.heap[x.block]? = some (.cells cx yx (0, 0)) := by rw [hb.block _ lx]; exact HX.out
    have ht' : wr.heap[t.block]? = some (.cells ct yt (0, 0)) := by rw [hb.block _ lt]; exact HT.out
    cases m with
    | zero =>
      have hcl : u0 = .iface 226 (.pointer (some x)) := hc'
      subst hcl
      clear hc'
      by_cases hab : x = t
      · subst hab
        have heq := run_eql_iface_ptr_same (P := Tryz.prog) wr x Tryz.underlying120 Tryz.underlying226 hi hcmp hj
        clear hx' ht'
        go_wp2
        go_ret
        exact ⟨by simp, hb⟩
      · have heq := run_eql_iface_ptr_other (P := Tryz.prog) wr Tryz.underlying120 Tryz.underlying226 hi hcmp hj (by rw [hjs]; decide) hab hx' ht'
        clear hx' ht'
        go_wp2
        go_ret
        exact ⟨by simp [hab], hb⟩
    | succ m1 =>
      obtain ⟨s, E1, hcl, h1⟩ := hc'
      subst hcl
      have hty := run_eql_iface_types (P := Tryz.prog) 202 226 (.agg #[.string s, E1]) (.pointer (some t)) Tryz.underlying120 (by decide) wr
      have hlen := chainLen_eq (k := n) h1 (by omega)
      have hlen0 := chainLen_eq (k := n) (Chain.wrap s E1 x m1 h1) hmn
      obtain ⟨u1, v1, rfl⟩ := Chain.iface h1
      have HLN := hid hlen
      have HL0 := hid hlen0
      clear hlen hlen0
      have HC := hid h1
      clear h1 hx' ht'
      go_wp2_with (go_at_call 197; refine (unwrap_any _ _ _ _).mono ?_; rintro e w' ⟨rfl, hw⟩)
      go_roundw
      case rel => exact ⟨kt hb hw, m1, by omega, HC.out⟩
      case measure =>
        show chainLen n (.iface u1 v1) < _
        rw [HLN.out, HL0.out]; simp

set_option maxRecDepth 1000000 in
set_option maxHeartbeats 2000000 in
theorem errorsIs_any {w : World} (v : Value) (x t : Addr) (n : Nat) (hch : Chain v x n) (hx : ∃ c y, w.heap[x.block]? = some (.cells c y (0, 0))) (ht : ∃ c y, w.heap[t.block]? = some (.cells c y (0, 0))) :
    Calls Tryz.prog 130 #[v, .iface 226 (.pointer (some t))] w fun e w' => e = .returned (.bool (decide (x = t))) ∧ Below w.heap.size w w' := by
  have tT := Tryz.isTypeOf
  have cT := Tryz.isComparable
  have mR := Tryz.isMethodComparable
  have hcon := is_chain v x t n hch hx ht
  obtain ⟨u, y, rfl⟩ := hch.iface
  clear hch hx ht
  go_enter Tryz.func130, Tryz.ntmps130
  go_wp2_with (first | (go_at_call 142; refine hcon.mono ?_; rintro e w' ⟨rfl, hw⟩) | go_in)
  go_ret
  exact ⟨rfl, hw⟩

set_option maxHeartbeats 1000000 in
theorem numberOf_any {w : World} {a b : Addr} {B : Nat} (L : Laid a b B w) (v : Value) (x : Addr) (n : Nat) (hch : Chain v x n) (hx : x = a ∨ x = b) :
    Calls Tryz.prog 112 #[v] w fun e w' => e = .returned (.int .i64 300) ∧ Below w.heap.size w w' := by
  have hrx : ∃ c y, w.heap[x.block]? = some (.cells c y (0, 0)) := by rcases hx with rfl | rfl; exact L.ra; exact L.rb
  have c0 := L.form
  have c1 := L.fend
  have H1 := hid (errorsIs_any v x a n hch hrx L.ra)
  by_cases hxa : x = a
  · have e1 : decide (x = a) = true := by simp [hxa]
    rw [e1] at H1
    clear hch hrx hx L
    go_enter Tryz.func112, Tryz.ntmps112
    go_wp2_with (go_at_call 130; refine H1.out.mono ?_; rintro e w' ⟨rfl, hw⟩)
    go_ret
    exact ⟨rfl, hw⟩
  · have e1 : decide (x = a) = false := by simp [hxa]
    have hxb : x = b := by rcases hx with h | h; exact absurd h hxa; exact h
    rw [e1] at H1
    have H2 : Hid (∀ w', Below w.heap.size w w' → Calls Tryz.prog 130 #[v, .iface 226 (.pointer (some b))] w' fun e w' => e = .returned (.bool true) ∧ Below w.heap.size w w') := by
      refine hid fun w' hw => ?_
      have e2 : decide (x = b) = true := by simp [hxb]
      have hrb : ∃ c y, w'.heap[b.block]? = some (.cells c y (0, 0)) := by
        obtain ⟨c, y, e⟩ := L.rb
        exact ⟨c, y, by rw [hw.block _ (Nat.lt_of_lt_of_le L.lb L.size)]; exact e⟩
      refine (errorsIs_any v x b n hch (by rw [hxb]; exact hrb) hrb).mono ?_
      rintro e w2 ⟨rfl, h2⟩
      exact ⟨by rw [e2], kt hw h2⟩
    clear hch hrx hx L hxb hxa
    go_enter Tryz.func112, Tryz.ntmps112
    go_wp2_with (go_at_call 130; first | (refine H1.out.mono ?_; rintro e w1 ⟨rfl, hw⟩; have c2 := kept_cell hw c1; have HW := hid hw; clear hw H1) | (refine (H2.out _ HW.out).mono ?_; rintro e w2 ⟨rfl, hw2⟩))
    go_ret
    exact ⟨rfl, hw2⟩

end Go.Proofs.YtcngmkbgcfhmdaaGreatDoor
