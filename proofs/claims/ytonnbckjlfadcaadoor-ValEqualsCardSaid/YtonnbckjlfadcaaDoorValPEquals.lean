/- Proved: for every two values in parts and every slice of such values, the law ValEquals of package val returns true and leaves its arguments as they were; the listed tables of package strconv and math/bits read as the program text lays them (no further condition). -/
import Derived.Test.YtonnbckjlfadcaaDoorValP
import Derived.Test.YtonnbckjlfadcaaDoorValLEquals
import Derived.Lib.SmallJoins
import Derived.ShutString
import Derived.ChangeOld
import Derived.Below
import Derived.Carry
namespace Go.Proofs.YtonnbckjlfadcaaDoor.valEquals
open Go.ChangeShapes Go.WideShapes Go.ChangeAt Go.RowKit Go.Joins
set_option linter.unusedVariables false

theorem contract (H : Type) (enc : TypeId × Value → H) (W : World) (base : Nat) (args : Array Value) (ds gs : List (DataW H)) (before : List MemPlace)
    (hval0 : ∀ (j : Nat) t v, Tryd.f5.params[j]? = some t → args[j]? = some v → Value.okWide Tryd.prog W .any base t v)
    (hW : DataW.Whole enc Tryd.prog Tryd.f5.params.toList Rows.valEqualsSpec.vars false W args.toList ds gs before) (hL : laidMetH Tryd.prog Rows.valEqualsRow.laid W) :
    Calls Tryd.prog 5 args W fun e W' => ∃ v, e = .returned v ∧ Rows.valEqualsSpec.post enc Tryd.prog Tryd.f5 false true false false W args v W' := by
  have hval : ∀ (j : Nat) t v, Tryd.f5.params[j]? = some t → args[j]? = some v → Value.okWide Tryd.prog W .any base t v := hval0
  have hW' := hW
  obtain ⟨p, q, hA0, hV, rfl, hfz, hnd⟩ := hW
  have hA : DataW.TrodAll enc Tryd.prog W 0 (fun _ => true) true Tryd.f5.params.toList args.toList ds p := hA0
  rw [Tryd.params5] at hA hval
  obtain ⟨v0, vs0, d0, ds0, p0, q0, hargs, rfl, rfl, h0, r0⟩ := trodAll_cons hA
  obtain ⟨v1, vs1, d1, ds1, p1, q1, rfl, rfl, rfl, h1, r1⟩ := trodAll_cons r0
  obtain ⟨v2, vs2, d2, ds2, p2, q2, rfl, rfl, rfl, h2, r2⟩ := trodAll_cons r1
  obtain ⟨rfl, rfl, rfl⟩ := trodAll_nil r2
  obtain rfl : args = #[v0, v1, v2] := by cases args; simp_all
  obtain ⟨rfl, rfl⟩ := trodVars_none hV
  have k0 := h0
  have lt0 : ∀ x ∈ p0, x.block < W.heap.size := by obtain ⟨m, hm⟩ := k0; exact DataW.trod_lt m _ _ _ hm
  obtain ⟨x0, rfl, fit0, dat0⟩ : ∃ x : Raw, v0 = x.val ∧ x.fits ∧ d0 = x.dat := by
    obtain ⟨ca, cb, cc, cd, ya, yb, yc, yd, m, rfl, rfl, _, ua, ub, uc, ud⟩ := open_agg4 Tryd.underlying23 (by kernel_rfl) cellsRaw (hval 0 23 v0 rfl rfl) h0
    obtain ⟨xa, za, ja, wfa⟩ := DataW.trod_int Tryd.underlying3 ua
    obtain ⟨xb, zb, jb, wfb⟩ := DataW.trod_int Tryd.underlying3 ub
    obtain ⟨xc, zc, jc, wfc⟩ := DataW.trod_string Tryd.underlying9 uc
    obtain ⟨xd, zd, jd, wfd⟩ := DataW.trod_int Tryd.underlying21 ud
    simp at za zb zc zd
    subst za zb zc zd
    exact ⟨⟨xa, xb, xc, xd⟩, rfl, bounds_i64 wfb, by simp [Raw.dat, ja, jb, jc, jd]⟩
  have k1 := h1
  have lt1 : ∀ x ∈ p1, x.block < W.heap.size := by obtain ⟨m, hm⟩ := k1; exact DataW.trod_lt m _ _ _ hm
  obtain ⟨x1, rfl, fit1, dat1⟩ : ∃ x : Raw, v1 = x.val ∧ x.fits ∧ d1 = x.dat := by
    obtain ⟨ca, cb, cc, cd, ya, yb, yc, yd, m, rfl, rfl, _, ua, ub, uc, ud⟩ := open_agg4 Tryd.underlying23 (by kernel_rfl) cellsRaw (hval 1 23 v1 rfl rfl) h1
    obtain ⟨xa, za, ja, wfa⟩ := DataW.trod_int Tryd.underlying3 ua
    obtain ⟨xb, zb, jb, wfb⟩ := DataW.trod_int Tryd.underlying3 ub
    obtain ⟨xc, zc, jc, wfc⟩ := DataW.trod_string Tryd.underlying9 uc
    obtain ⟨xd, zd, jd, wfd⟩ := DataW.trod_int Tryd.underlying21 ud
    simp at za zb zc zd
    subst za zb zc zd
    exact ⟨⟨xa, xb, xc, xd⟩, rfl, bounds_i64 wfb, by simp [Raw.dat, ja, jb, jc, jd]⟩
  have k2 := h2
  have lt2 : ∀ x ∈ p2, x.block < W.heap.size := by obtain ⟨m, hm⟩ := k2; exact DataW.trod_lt m _ _ _ hm
  obtain ⟨a2, len2, cap2, rfl⟩ := okWide_slice Tryd.underlying24 (hval 2 24 v2 rfl rfl)
  obtain ⟨z2, w2, fit2, dat2⟩ : ∃ q : Nat → Raw, IsRaws W a2 len2 q ∧ (∀ k, k < len2 → (q k).fits) ∧ (len2 = 0 ∨ ∃ spare, d2 = .slice ((List.range len2).map fun k => (q k).dat) spare) := by
    obtain ⟨fuel, hf⟩ := h2
    exact open_raws hf
  clear hA0 hval0
  refine (valEquals_walk x0 x1 a2 len2 cap2 z2 W w2).mono fun e W' ⟨he, bel⟩ => ?_
  subst he
  exact ⟨_, rfl, _, _, _, [], _, [], hW', trodAll_mk1 (shut_bool Tryd.underlying4 _), (trodAll_cons_mk (Below.trod laidOut (by kernel_rfl) (of_decide_eq_true (by kernel_rfl)) k0 bel lt0) (trodAll_cons_mk (Below.trod laidOut (by kernel_rfl) (of_decide_eq_true (by kernel_rfl)) k1 bel lt1) (trodAll_cons_mk (Below.trod laidOut (by kernel_rfl) (of_decide_eq_true (by kernel_rfl)) k2 bel lt2) trodAll_mk0))), rfl, bel.frame _, fun h => by cases h⟩

theorem laid_met (os : Os) : laidMet Tryd.prog Rows.valEqualsRow.laid ((laidWorld os).forCall (fun _ _ => 0) ⟨#[], #[.agg #[.int .i64 0, .int .i64 0, .string ByteArray.empty, .int .i32 0], .agg #[.int .i64 0, .int .i64 0, .string ByteArray.empty, .int .i32 0], .slice none 0 0], []⟩).memory :=
  laidMet_of_run' 8 (by kernel_rfl) (by kernel_rfl)
theorem reads (os : Os) {H : Type} (enc : TypeId × Value → H) : ∃ places, DataW.whole enc Tryd.prog ((laidWorld os).forCall (fun _ _ => 0) ⟨#[], #[.agg #[.int .i64 0, .int .i64 0, .string ByteArray.empty, .int .i32 0], .agg #[.int .i64 0, .int .i64 0, .string ByteArray.empty, .int .i32 0], .slice none 0 0], []⟩).memory Tryd.f5.params.toList Rows.valEqualsSpec.vars false (#[.agg #[.int .i64 0, .int .i64 0, .string ByteArray.empty, .int .i32 0], .agg #[.int .i64 0, .int .i64 0, .string ByteArray.empty, .int .i32 0], .slice none 0 0] : Array Value).toList 8 = some ([.agg [.lit (.int .i64 0), .lit (.int .i64 0), .lit (.string []), .lit (.int .i32 0)], .agg [.lit (.int .i64 0), .lit (.int .i64 0), .lit (.string []), .lit (.int .i32 0)], .nil], [], places) :=
  ⟨[], by kernel_rfl⟩

set_option maxRecDepth 100000 in
theorem lifted (os : Os) (started : os.Started) (H : Type) (enc : TypeId × Value → H) (F : Stop.Interp) :
    ReturnsInHanded {} Tryd.checked os 5 .any ((OpenSpec.ofChange Rows.valEqualsSpec).preRow enc Tryd.prog Tryd.f5 Rows.valEqualsRow.domain false Rows.valEqualsRow.laid) (((OpenSpec.ofChange Rows.valEqualsSpec).at F).post enc Tryd.prog Tryd.f5 false true false false) := by
  obtain ⟨places, hx⟩ := reads os enc
  refine returnsInHanded_of_row (C := Tryd.checked) (s := (OpenSpec.ofChange Rows.valEqualsSpec)) own started (by kernel_rfl) Tryd.func5
    (witness_row_at (enc := enc) (C := Tryd.checked) false (laidWorld os) #[.agg #[.int .i64 0, .int .i64 0, .string ByteArray.empty, .int .i32 0], .agg #[.int .i64 0, .int .i64 0, .string ByteArray.empty, .int .i32 0], .slice none 0 0] rfl (by kernel_rfl) (by kernel_rfl) (by kernel_rfl)
      (OpenSpec.preRow_of_cond 8 hx (by kernel_rfl) (fun k hk => by cases hk) (by kernel_rfl) (laid_met os))) ?_
  intro W base args ds gs before hval hW _ _ _ hL _ _
  exact contract H enc W base args ds gs before hval hW hL

theorem said : Rows.ValEqualsSaid :=
  OpenClaim.holds_of_cond 5 Tryd.f5 rfl rfl rfl rfl rfl rfl rfl ⟨rfl, rfl, rfl, rfl, rfl⟩ rfl rfl rfl rfl rfl (by kernel_rfl) Tryd.func5 (by kernel_rfl)
    (of_decide_eq_true (by kernel_rfl)) (by unfold Func.isWrapper; first | (rw [if_pos (by decide +kernel)]; kernel_rfl) | (rw [if_neg (by decide +kernel)]; exact ⟨rfl, rfl⟩))
    (fun os started H enc _ F => by rw [OpenClaim.pre_eq_preRow]; exact lifted os started H enc F)

theorem plain (f : FuncId) (fn : Func) (hf : Tryd.pinned.checked.prog.funcNamed Rows.valEqualsRow.func = some f) (hfn : Tryd.pinned.checked.prog.funcs[f]? = some fn) :
    true = Tryd.pinned.checked.prog.looks [] ∧ ∀ (j : Nat) t, fn.params[j]? = some t → Tryd.pinned.checked.prog.wantsStandIn t = false := by
  obtain rfl : f = 5 := Option.some.inj ((show Tryd.prog.funcNamed Rows.valEqualsRow.func = some 5 by kernel_rfl).symm.trans hf) |>.symm
  obtain rfl : fn = Tryd.f5 := (Option.some.inj (Tryd.func5.symm.trans hfn)).symm
  refine ⟨by kernel_rfl, fun j t ht => ?_⟩
  rw [Tryd.params5] at ht
  have hm : t ∈ [23, 23, 24] := by simpa using Array.mem_of_getElem? ht
  have hall : ([23, 23, 24].all fun u => !Tryd.prog.wantsStandIn u) = true := by kernel_rfl
  exact (show Tryd.prog.wantsStandIn t = false by simpa using List.all_eq_true.1 hall t hm)

theorem proved : Rows.ValEqualsCardSaid :=
  Claim7.holds_tied_plain_at .later [] _ _ _ _ said (fun _ h => by cases h) (by kernel_rfl) (fun _ h => by cases h) valEquals_row_tie rfl ⟨rfl, rfl⟩ (by kernel_rfl) rfl plain (by kernel_rfl)
#print axioms proved
end Go.Proofs.YtonnbckjlfadcaaDoor.valEquals
