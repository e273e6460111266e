/- What errors.As returns for a fault, and what tell returns. -/
import Derived.Test.YtaimpljkbpnigaaGreatDoorAsErr
import Derived.Deep.MidRow
namespace Go.Proofs.YtaimpljkbpnigaaGreatDoor
open Go.RowKit Go.Extern.Stop Go.Stop Go.Extern
set_option linter.unusedVariables false

theorem setCells_frm1 (b : Nat) : ∀ (vs : List Value) (o : Nat) (w : World), Frm (fun k => k = b) w (w.setCells b o vs)
  | [], _, w => Frm.refl _ w
  | v :: r, o, w => (Frm.set (S := fun k => k = b) (p := ⟨b, o, none⟩) v rfl).trans (setCells_frm1 b r (o + 1) (w.setCell ⟨b, o, none⟩ v)) (fun _ _ h => h)
/-- An error of the package: the pc, the number. -/
def flt (pc n : Int) : Value := .iface 125 (.agg #[.int .i64 pc, .iface 30 (.int .i64 n)])
theorem Tryz.szF : (Tryz.prog.info? 125).map (·.size) = some 2 := by kernel_rfl
theorem Tryz.stF (tb gb : Nat) (pc : Int) (u : Value) (W : World) (hb : W.rangeAt gb 0 [.int .i64 pc, .iface 30 u]) (ht : W.there tb 0 2) :
    (ReflectliteValue.set #[.agg #[.pointer (some ⟨6, 125, none⟩), .pointer (some ⟨tb, 0, none⟩), .int .u64 409], .agg #[.pointer (some ⟨6, 125, none⟩), .pointer (some ⟨gb, 0, none⟩), .int .u64 153]]).run Tryz.prog W
      = .ok (.tuple #[]) (W.setCells tb 0 [.int .i64 pc, .iface 30 u]) := by
  have h1 := run_loadVar_mid (P := Tryz.prog) W gb 0 125 [.int .i64 pc, .iface 30 u] _ hb Tryz.underlying125 rfl Tryz.szF
  have h2 := run_storeVar_mid (P := Tryz.prog) W tb 0 125 #[.int .i64 pc, .iface 30 u] ht Tryz.szF (by simp [Value.oneCell'])
  show (ReflectliteValue.parts (.agg #[.pointer (some ⟨6, 125, none⟩), .pointer (some ⟨tb, 0, none⟩), .int .u64 409]) >>= fun _ => ReflectliteValue.parts (.agg #[.pointer (some ⟨6, 125, none⟩), .pointer (some ⟨gb, 0, none⟩), .int .u64 153]) >>= _).run Tryz.prog W = _
  simp only [Sem.run_bind, Tryz.ptFa, Tryz.ptF, Result.andThen]
  simp [ReflectliteValue.flagAddr, h1, Result.andThen, Tryz.diF, h2]

theorem Tryz.noAsF (v : Value) (xT : TypeId) (w : World) : (Instr.typeAssert (.iface 125 v) xT 180 true).run Tryz.prog w = .ok (.tuple #[.nilIface, .bool false]) w := run_typeAssert_lacksB Tryz.underlying180 (by kernel_rfl) (by kernel_rfl) v xT w
theorem Tryz.hasUnF (v : Value) (xT : TypeId) (w : World) : (Instr.typeAssert (.iface 125 v) xT 183 true).run Tryz.prog w = .ok (.tuple #[.iface 125 v, .bool true]) w := run_typeAssert_hasB Tryz.underlying183 (by kernel_rfl) v xT w
theorem Tryz.mUnF (v : Value) (w : World) : (Go.method 365 125 v "Unwrap").run Tryz.prog w = .ok (173, v) w := by kernel_rfl
theorem unwrapF_any (pc : Int) (u : TypeId) (y : Value) (w : World) :
    Calls Tryz.prog 173 #[.agg #[.int .i64 pc, .iface u y]] w fun e w' => e = .returned (.iface u y) ∧ Below w.heap.size w w' := by
  go_enter Tryz.func173, Tryz.ntmps173
  go_wp2
  go_ret
  exact ⟨rfl, by go_grown⟩
theorem as_nil (t : Value) (w : World) :
    Calls Tryz.prog 71 #[.nilIface, t] w fun e w' => e = .returned (.bool false) ∧ w' = w := by
  go_enter Tryz.func71, Tryz.ntmps71
  go_wp2
  go_ret
  exact ⟨rfl, rfl⟩

set_option maxRecDepth 1000000 in
set_option maxHeartbeats 4000000 in
/-- errors.as at the fault's own type. -/
theorem asF {w : World} (pc n : Int) (tb gp : Nat) (hp : w.cell? ⟨gp, 0, none⟩ = some (.pointer (some ⟨tb, 0, none⟩))) (ht : w.there tb 0 2) :
    Calls Tryz.prog 91 #[flt pc n, .iface 128 (.pointer (some ⟨tb, 0, none⟩)), .agg #[.pointer (some ⟨6, 128, none⟩), .pointer (some ⟨gp, 0, none⟩), .int .u64 150], .iface 175 (.agg #[.pointer (some ⟨6, 125, none⟩)])] w
      fun e w' => e = .returned (.bool true) ∧ w'.cell? ⟨tb, 0, none⟩ = some (.int .i64 pc) ∧ Frm (fun k => k = tb) w w' := by
  have h6 := @run_callFunc_extern Tryz.prog 88 _ (fun args => ReflectliteValue.unpack (args.getD 0 (.tuple #[]))) Tryz.func88 (by kernel_rfl) (by kernel_rfl) (by kernel_rfl) (by kernel_rfl)
  have h10 := @run_callFunc_extern Tryz.prog 110 _ ReflectliteType.typeOf Tryz.func110 (by kernel_rfl) (by kernel_rfl) (by kernel_rfl) (by kernel_rfl)
  have h35 := @run_callFunc_extern Tryz.prog 178 _ (ReflectliteType.relation "AssignableTo" ReflectliteType.assignableTo) Tryz.func178 (by kernel_rfl) (by kernel_rfl) (by kernel_rfl) (by kernel_rfl)
  have h11 := @run_callFunc_extern Tryz.prog 111 _ (ReflectliteValue.method (ReflectliteValue.valueError "reflectlite.Value.Elem" 0) ReflectliteValue.elem) Tryz.func111 (by kernel_rfl) (by kernel_rfl) (by kernel_rfl) (by kernel_rfl)
  have h12 := @run_callFunc_extern Tryz.prog 112 _ ReflectliteValue.set Tryz.func112 (by kernel_rfl) (by kernel_rfl) (by kernel_rfl) (by kernel_rfl)
  have tO := Tryz.toF
  have mA := Tryz.mAssn
  have a1 := Tryz.asFF
  have v1 := Tryz.vOfF
  have hgl := lt_of_cell hp
  have htl : tb < w.heap.size := by
    obtain ⟨c, hc⟩ := Option.isSome_iff_exists.1 (ht 0 (by omega)).1
    exact lt_of_cell hc
  have el := Tryz.evPF ⟨gp, 0, none⟩ ⟨tb, 0, none⟩ (w.alloc (.cells #[.pointer (some ⟨6, 128, none⟩), .pointer (some ⟨gp, 0, none⟩), .int .u64 150] 154)) (by rw [World.cell?_alloc_lt _ _ ⟨gp, 0, none⟩ hgl]; exact hp)
  have T2 : ((w.alloc (.cells #[.pointer (some ⟨6, 128, none⟩), .pointer (some ⟨gp, 0, none⟩), .int .u64 150] 154)).alloc (.cells #[.int .i64 pc, .iface 30 (.int .i64 n)] 125)).there tb 0 2 := fun j hj => by
    rw [World.cell?_alloc_lt _ _ ⟨tb, _, none⟩ (by simp; omega), World.cell?_alloc_lt _ _ ⟨tb, _, none⟩ htl, World.frozen?_alloc_old _ _ ⟨tb, _, none⟩ (by simp; omega), World.frozen?_alloc_old _ _ ⟨tb, _, none⟩ (Nat.ne_of_lt htl)]
    exact ht j hj
  have st := Tryz.stF tb (w.heap.size + 1) pc (.int .i64 n) ((w.alloc (.cells #[.pointer (some ⟨6, 128, none⟩), .pointer (some ⟨gp, 0, none⟩), .int .u64 150] 154)).alloc (.cells #[.int .i64 pc, .iface 30 (.int .i64 n)] 125)) (fun j v hv => by
      rw [World.cell?_alloc_at _ _ _ _ (by simp), Nat.zero_add]; simpa using hv) T2
  have F : Hid (Frm (fun k => k = tb) w (((w.alloc (.cells #[.pointer (some ⟨6, 128, none⟩), .pointer (some ⟨gp, 0, none⟩), .int .u64 150] 154)).alloc (.cells #[.int .i64 pc, .iface 30 (.int .i64 n)] 125)).setCells tb 0 [.int .i64 pc, .iface 30 (.int .i64 n)])) := hid
    ((Frm.of_below (S := fun k => k = tb) (Below.alloc (Below.alloc (Below.refl _ _) (Nat.le_refl _) _) (by simp) _)).trans (setCells_frm1 tb _ 0 _) (fun _ _ h => h))
  have C : Hid ((((w.alloc (.cells #[.pointer (some ⟨6, 128, none⟩), .pointer (some ⟨gp, 0, none⟩), .int .u64 150] 154)).alloc (.cells #[.int .i64 pc, .iface 30 (.int .i64 n)] 125)).setCells tb 0 [.int .i64 pc, .iface 30 (.int .i64 n)]).cell? ⟨tb, 0, none⟩ = some (.int .i64 pc)) := hid
    (World.rangeAt_setCells_same _ tb 0 [.int .i64 pc, .iface 30 (.int .i64 n)] (fun j hj => T2 j (by simpa using hj)) 0 _ rfl)
  clear hp ht T2
  unfold flt
  go_enter Tryz.func91, Tryz.ntmps91
  go_wp2
  refine wp_loop_rounds 1 ?_
  rw [rounds_succ]
  go_wp2
  go_ret
  exact ⟨rfl, C.out, F.out⟩

set_option maxRecDepth 1000000 in
set_option maxHeartbeats 4000000 in
/-- errors.as at the type of the fault's cause. -/
theorem asE {w : World} (pc n : Int) (old : Value) (tb gp : Nat) (hp : w.cell? ⟨gp, 0, none⟩ = some (.pointer (some ⟨tb, 0, none⟩))) (ht : w.cell? ⟨tb, 0, none⟩ = some old) (hf : w.frozen? ⟨tb, 0, none⟩ = false) :
    Calls Tryz.prog 91 #[flt pc n, .iface 129 (.pointer (some ⟨tb, 0, none⟩)), .agg #[.pointer (some ⟨6, 129, none⟩), .pointer (some ⟨gp, 0, none⟩), .int .u64 150], .iface 175 (.agg #[.pointer (some ⟨6, 30, none⟩)])] w
      fun e w' => e = .returned (.bool true) ∧ w'.cell? ⟨tb, 0, none⟩ = some (.int .i64 n) ∧ Frm (fun k => k = tb) w w' := by
  have h6 := @run_callFunc_extern Tryz.prog 88 _ (fun args => ReflectliteValue.unpack (args.getD 0 (.tuple #[]))) Tryz.func88 (by kernel_rfl) (by kernel_rfl) (by kernel_rfl) (by kernel_rfl)
  have h10 := @run_callFunc_extern Tryz.prog 110 _ ReflectliteType.typeOf Tryz.func110 (by kernel_rfl) (by kernel_rfl) (by kernel_rfl) (by kernel_rfl)
  have h35 := @run_callFunc_extern Tryz.prog 178 _ (ReflectliteType.relation "AssignableTo" ReflectliteType.assignableTo) Tryz.func178 (by kernel_rfl) (by kernel_rfl) (by kernel_rfl) (by kernel_rfl)
  have h11 := @run_callFunc_extern Tryz.prog 111 _ (ReflectliteValue.method (ReflectliteValue.valueError "reflectlite.Value.Elem" 0) ReflectliteValue.elem) Tryz.func111 (by kernel_rfl) (by kernel_rfl) (by kernel_rfl) (by kernel_rfl)
  have h12 := @run_callFunc_extern Tryz.prog 112 _ ReflectliteValue.set Tryz.func112 (by kernel_rfl) (by kernel_rfl) (by kernel_rfl) (by kernel_rfl)
  have tO := Tryz.toF
  have tE := Tryz.toE
  have mA := Tryz.mAssn
  have a1 := Tryz.asFE
  have a2 := Tryz.asEE
  have v1 := Tryz.vOfE
  have nA := Tryz.noAsF
  have hU := Tryz.hasUnF
  have mU := Tryz.mUnF
  have HP := hid hp
  have HT := hid (And.intro ht hf)
  clear hp ht hf
  unfold flt
  go_enter Tryz.func91, Tryz.ntmps91
  go_wp2
  refine wp_loop_rounds 2 ?_
  rw [rounds_succ]
  go_wp2_with (go_at_call 173; refine (unwrapF_any _ _ _ _).mono ?_; rintro e w1 ⟨rfl, hb⟩)
  have hA : Below w.heap.size w (w.alloc (.cells #[.pointer (some ⟨6, 129, none⟩), .pointer (some ⟨gp, 0, none⟩), .int .u64 150] 154)) := Below.alloc (Below.refl _ _) (Nat.le_refl _) _
  have q0 := kept_cell hb (b := w.heap.size) (o := 0) (v := .pointer (some ⟨6, 129, none⟩)) (by simp [go_sem])
  have q1 := kept_cell hb (b := w.heap.size) (o := 1) (v := .pointer (some ⟨gp, 0, none⟩)) (by simp [go_sem])
  have q2 := kept_cell hb (b := w.heap.size) (o := 2) (v := .int .u64 150) (by simp [go_sem])
  have B := kt hA hb
  have hp1 := kept_cell B HP.out
  have ht1 := kept_cell B HT.out.1
  have hf1 : w1.frozen? ⟨tb, 0, none⟩ = false := (Frm.of_below (S := fun _ => False) B).free HT.out.1 HT.out.2 (fun h => h)
  have htl := lt_of_cell ht1
  have el := Tryz.evPE ⟨gp, 0, none⟩ ⟨tb, 0, none⟩ w1 hp1
  have T1 : (w1.alloc (.cells #[.int .i64 n] 30)).cell? ⟨tb, 0, none⟩ = some old := by rw [World.cell?_alloc_lt _ _ ⟨tb, 0, none⟩ htl]; exact ht1
  have T2 : (w1.alloc (.cells #[.int .i64 n] 30)).frozen? ⟨tb, 0, none⟩ = false := by rw [World.frozen?_alloc_old _ _ ⟨tb, 0, none⟩ (Nat.ne_of_lt htl)]; exact hf1
  have st := Tryz.stE ⟨tb, 0, none⟩ ⟨w1.heap.size, 0, none⟩ n old (w1.alloc (.cells #[.int .i64 n] 30)) (by simp) T1 T2
  have F : Hid (Frm (fun k => k = tb) w ((w1.setCell ⟨tb, 0, none⟩ (.int .i64 n)).alloc (.cells #[.int .i64 n] 30))) := hid
    (((Frm.of_below (S := fun k => k = tb) B).trans (Frm.set (S := fun k => k = tb) (p := ⟨tb, 0, none⟩) _ rfl) (fun _ _ h => h)).trans (Frm.of_below (S := fun k => k = tb) (Below.alloc (Below.refl _ _) (Nat.le_refl _) _)) (fun _ _ h => h))
  have C : Hid (((w1.setCell ⟨tb, 0, none⟩ (.int .i64 n)).alloc (.cells #[.int .i64 n] 30)).cell? ⟨tb, 0, none⟩ = some (.int .i64 n)) := hid (by
    rw [World.cell?_alloc_lt _ _ ⟨tb, 0, none⟩ (by simpa using htl)]
    exact World.rangeAt_setCells_same w1 tb 0 [.int .i64 n] (fun j hj => by
      have : j = 0 := by simpa using hj
      subst this; exact ⟨by rw [Nat.zero_add, ht1]; rfl, hf1⟩) 0 _ rfl)
  clear hA hb B hp1 ht1 hf1 T1 T2
  rw [rounds_succ]
  go_wp2
  go_ret
  exact ⟨rfl, C.out, F.out⟩

set_option maxRecDepth 1000000 in
set_option maxHeartbeats 4000000 in
theorem errorsAsF {w : World} (pc n : Int) (tb : Nat) (hg : ErrTy w) (ht : w.there tb 0 2) :
    Calls Tryz.prog 71 #[flt pc n, .iface 128 (.pointer (some ⟨tb, 0, none⟩))] w fun e w' => e = .returned (.bool true) ∧ w'.cell? ⟨tb, 0, none⟩ = some (.int .i64 pc) ∧ Frm (fun k => k = tb) w w' := by
  have h6 := @run_callFunc_extern Tryz.prog 88 _ (fun args => ReflectliteValue.unpack (args.getD 0 (.tuple #[]))) Tryz.func88 (by kernel_rfl) (by kernel_rfl) (by kernel_rfl) (by kernel_rfl)
  have h7 := @run_callFunc_extern Tryz.prog 89 _ (ReflectliteValue.methodAny (ReflectliteValue.valueError "reflectlite.Value.Type" 0) (fun t _ _ _ => ReflectliteType.toType t)) Tryz.func89 (by kernel_rfl) (by kernel_rfl) (by kernel_rfl) (by kernel_rfl)
  have h8 := @run_callFunc_extern Tryz.prog 90 _ (ReflectliteValue.method (ReflectliteValue.valueError "reflectlite.Value.IsNil" 0) ReflectliteValue.isNil) Tryz.func90 (by kernel_rfl) (by kernel_rfl) (by kernel_rfl) (by kernel_rfl)
  have h27 := @run_callFunc_extern Tryz.prog 168 _ (ReflectliteType.abiMethod fun t => do pure (.int .u8 (← Rtype.kind t))) Tryz.func168 (by kernel_rfl) (by kernel_rfl) (by kernel_rfl) (by kernel_rfl)
  have h37 := @run_callFunc_extern Tryz.prog 180 _ (ReflectliteType.method ReflectliteType.elem) Tryz.func180 (by kernel_rfl) (by kernel_rfl) (by kernel_rfl) (by kernel_rfl)
  have h38 := @run_callFunc_extern Tryz.prog 181 _ (ReflectliteType.relation "Implements" ReflectliteType.implements_) Tryz.func181 (by kernel_rfl) (by kernel_rfl) (by kernel_rfl) (by kernel_rfl)
  have f6 := Tryz.vOfPF
  have f7 := Tryz.tyPF
  have mK := Tryz.mKind
  have mE := Tryz.mElem
  have mI := Tryz.mImpl
  have k1 := Tryz.kPF
  have k2 := Tryz.kF
  have e1 := Tryz.elPF
  have i1 := Tryz.imF
  have hAA : Below w.heap.size w ((w.alloc (.cells #[.pointer (some ⟨tb, 0, none⟩)] 128)).alloc (.cells #[.pointer (some ⟨6, 128, none⟩), .pointer (some ⟨w.heap.size, 0, none⟩), .int .u64 150] 154)) := Below.alloc (Below.alloc (Below.refl _ _) (Nat.le_refl _) _) (by simp) _
  have n8 := Tryz.inPF ⟨w.heap.size, 0, none⟩ ⟨tb, 0, none⟩ ((w.alloc (.cells #[.pointer (some ⟨tb, 0, none⟩)] 128)).alloc (.cells #[.pointer (some ⟨6, 128, none⟩), .pointer (some ⟨w.heap.size, 0, none⟩), .int .u64 150] 154)) (by simp)
  have hg2 : ((w.alloc (.cells #[.pointer (some ⟨tb, 0, none⟩)] 128)).alloc (.cells #[.pointer (some ⟨6, 128, none⟩), .pointer (some ⟨w.heap.size, 0, none⟩), .int .u64 150] 154)).cell? ⟨0, 0, none⟩ = some (.iface 175 (.agg #[.pointer (some ⟨6, 106, none⟩)])) := kept_cell hAA hg
  have htl : tb < w.heap.size := by
    obtain ⟨c, hc⟩ := Option.isSome_iff_exists.1 (ht 0 (by omega)).1
    exact lt_of_cell hc
  have HC := hid (asF (w := ((w.alloc (.cells #[.pointer (some ⟨tb, 0, none⟩)] 128)).alloc (.cells #[.pointer (some ⟨6, 128, none⟩), .pointer (some ⟨w.heap.size, 0, none⟩), .int .u64 150] 154))) pc n tb w.heap.size (by simp) (fun j hj => by
    rw [World.cell?_alloc_lt _ _ ⟨tb, _, none⟩ (by simp; omega), World.cell?_alloc_lt _ _ ⟨tb, _, none⟩ htl, World.frozen?_alloc_old _ _ ⟨tb, _, none⟩ (by simp; omega), World.frozen?_alloc_old _ _ ⟨tb, _, none⟩ (Nat.ne_of_lt htl)]
    exact ht j hj))
  unfold flt at HC
  have HA := hid hAA
  clear hAA hg ht
  unfold flt
  go_enter Tryz.func71, Tryz.ntmps71
  go_wp2_with (go_at_call 91; refine HC.out.mono ?_; rintro e w' ⟨rfl, hc, hf⟩)
  go_ret
  exact ⟨rfl, hc, (Frm.of_below (S := fun k => k = tb) HA.out).trans hf (fun _ _ h => h)⟩

set_option maxRecDepth 1000000 in
set_option maxHeartbeats 4000000 in
theorem errorsAsE {w : World} (pc n : Int) (old : Value) (tb : Nat) (hg : ErrTy w) (ht : w.cell? ⟨tb, 0, none⟩ = some old) (hf : w.frozen? ⟨tb, 0, none⟩ = false) :
    Calls Tryz.prog 71 #[flt pc n, .iface 129 (.pointer (some ⟨tb, 0, none⟩))] w fun e w' => e = .returned (.bool true) ∧ w'.cell? ⟨tb, 0, none⟩ = some (.int .i64 n) ∧ Frm (fun k => k = tb) w w' := by
  have h6 := @run_callFunc_extern Tryz.prog 88 _ (fun args => ReflectliteValue.unpack (args.getD 0 (.tuple #[]))) Tryz.func88 (by kernel_rfl) (by kernel_rfl) (by kernel_rfl) (by kernel_rfl)
  have h7 := @run_callFunc_extern Tryz.prog 89 _ (ReflectliteValue.methodAny (ReflectliteValue.valueError "reflectlite.Value.Type" 0) (fun t _ _ _ => ReflectliteType.toType t)) Tryz.func89 (by kernel_rfl) (by kernel_rfl) (by kernel_rfl) (by kernel_rfl)
  have h8 := @run_callFunc_extern Tryz.prog 90 _ (ReflectliteValue.method (ReflectliteValue.valueError "reflectlite.Value.IsNil" 0) ReflectliteValue.isNil) Tryz.func90 (by kernel_rfl) (by kernel_rfl) (by kernel_rfl) (by kernel_rfl)
  have h27 := @run_callFunc_extern Tryz.prog 168 _ (ReflectliteType.abiMethod fun t => do pure (.int .u8 (← Rtype.kind t))) Tryz.func168 (by kernel_rfl) (by kernel_rfl) (by kernel_rfl) (by kernel_rfl)
  have h37 := @run_callFunc_extern Tryz.prog 180 _ (ReflectliteType.method ReflectliteType.elem) Tryz.func180 (by kernel_rfl) (by kernel_rfl) (by kernel_rfl) (by kernel_rfl)
  have h38 := @run_callFunc_extern Tryz.prog 181 _ (ReflectliteType.relation "Implements" ReflectliteType.implements_) Tryz.func181 (by kernel_rfl) (by kernel_rfl) (by kernel_rfl) (by kernel_rfl)
  have f6 := Tryz.vOfPE
  have f7 := Tryz.tyPE
  have mK := Tryz.mKind
  have mE := Tryz.mElem
  have mI := Tryz.mImpl
  have k1 := Tryz.kPE
  have k2 := Tryz.kE
  have e1 := Tryz.elPE
  have i1 := Tryz.imE
  have hAA : Below w.heap.size w ((w.alloc (.cells #[.pointer (some ⟨tb, 0, none⟩)] 129)).alloc (.cells #[.pointer (some ⟨6, 129, none⟩), .pointer (some ⟨w.heap.size, 0, none⟩), .int .u64 150] 154)) := Below.alloc (Below.alloc (Below.refl _ _) (Nat.le_refl _) _) (by simp) _
  have n8 := Tryz.inPE ⟨w.heap.size, 0, none⟩ ⟨tb, 0, none⟩ ((w.alloc (.cells #[.pointer (some ⟨tb, 0, none⟩)] 129)).alloc (.cells #[.pointer (some ⟨6, 129, none⟩), .pointer (some ⟨w.heap.size, 0, none⟩), .int .u64 150] 154)) (by simp)
  have hg2 : ((w.alloc (.cells #[.pointer (some ⟨tb, 0, none⟩)] 129)).alloc (.cells #[.pointer (some ⟨6, 129, none⟩), .pointer (some ⟨w.heap.size, 0, none⟩), .int .u64 150] 154)).cell? ⟨0, 0, none⟩ = some (.iface 175 (.agg #[.pointer (some ⟨6, 106, none⟩)])) := kept_cell hAA hg
  have HC := hid (asE (w := ((w.alloc (.cells #[.pointer (some ⟨tb, 0, none⟩)] 129)).alloc (.cells #[.pointer (some ⟨6, 129, none⟩), .pointer (some ⟨w.heap.size, 0, none⟩), .int .u64 150] 154))) pc n old tb w.heap.size (by simp) (kept_cell hAA ht) ((Frm.of_below (S := fun _ => False) hAA).free ht hf (fun h => h)))
  unfold flt at HC
  have HA := hid hAA
  clear hAA hg ht hf
  unfold flt
  go_enter Tryz.func71, Tryz.ntmps71
  go_wp2_with (go_at_call 91; refine HC.out.mono ?_; rintro e w' ⟨rfl, hc, hf⟩)
  go_ret
  exact ⟨rfl, hc, (Frm.of_below (S := fun k => k = tb) HA.out).trans hf (fun _ _ h => h)⟩

set_option maxHeartbeats 1000000 in
theorem tell_nil (w : World) :
    Calls Tryz.prog 55 #[.nilIface] w fun e w' => e = .returned (.tuple #[.int .i64 0, .int .i64 0]) ∧ Below w.heap.size w w' := by
  go_enter Tryz.func55, Tryz.ntmps55
  go_wp2_with (go_at_call 71; refine (as_nil _ _).mono ?_; rintro e w' ⟨rfl, rfl⟩)
  go_ret2
  exact ⟨rfl, by go_grown⟩

set_option maxHeartbeats 1000000 in
theorem tell_flt (pc n : Int) (w : World) (hg : ErrTy w) :
    Calls Tryz.prog 55 #[flt pc n] w fun e w' => e = .returned (.tuple #[.int .i64 pc, .int .i64 n]) ∧ Below w.heap.size w w' := by
  have hA : Below w.heap.size w ((w.alloc (.cells #[.int .i64 0, .nilIface] 125)).alloc (.cells #[.int .i64 0] 30)) := Below.alloc (Below.alloc (Below.refl _ _) (Nat.le_refl _) _) (by simp) _
  have H1 := hid (errorsAsF (w := (w.alloc (.cells #[.int .i64 0, .nilIface] 125)).alloc (.cells #[.int .i64 0] 30)) pc n w.heap.size (hg.kept hA) (fun j hj => by
    rcases (show j = 0 ∨ j = 1 by omega) with rfl | rfl
    · exact ⟨by simp [go_sem], by simp [go_sem]⟩
    · exact ⟨by simp [go_sem], by simp [go_sem]⟩))
  have HA := hid hA
  have HG := hid hg
  clear hA hg
  have c0 : Hid (((w.alloc (.cells #[.int .i64 0, .nilIface] 125)).alloc (.cells #[.int .i64 0] 30)).cell? ⟨w.heap.size + 1, 0, none⟩ = some (.int .i64 0)) := hid (by simp [go_sem])
  have f0 : Hid (((w.alloc (.cells #[.int .i64 0, .nilIface] 125)).alloc (.cells #[.int .i64 0] 30)).frozen? ⟨w.heap.size + 1, 0, none⟩ = false) := hid (by simp [go_sem])
  unfold flt at H1 ⊢
  go_enter Tryz.func55, Tryz.ntmps55
  go_wp2_with fail
  refine H1.out.mono ?_
  rintro e w1 ⟨rfl, hc, hf⟩
  have hne : ¬ (w.heap.size + 1 = w.heap.size) := by omega
  have E1 : ErrTy w1 := (HG.out.kept HA.out) |> fun h => hf.cell h (by have := lt_of_cell HG.out; omega)
  have H2 := hid (errorsAsE (w := w1) pc n (.int .i64 0) (w.heap.size + 1) E1 (hf.cell c0.out hne) (hf.free c0.out f0.out hne))
  have HF := hid hf
  have HC := hid hc
  unfold flt at H2
  clear hf hc E1 H1 c0 f0 hne
  go_wp2_with fail
  refine H2.out.mono ?_
  rintro e w2 ⟨rfl, hc2, hf2⟩
  have hc1 := hf2.cell HC.out (by omega)
  have HF2 := hid hf2
  clear hf2 H2
  go_wp2_with fail
  go_quiet (fail)
  go_wp2_with fail
  go_ret2
  exact ⟨rfl, below_drewN (HA.out.trans ((HF.out.below (by simp; omega) (fun k hk => by omega)).trans (HF2.out.below (by have := HF.out.size; simp at this; omega) (fun k hk => by omega)))) _⟩

end Go.Proofs.YtaimpljkbpnigaaGreatDoor
