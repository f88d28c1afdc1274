/- Toward a step: edges that come, go, and rise, beside the lists; a look at the edges' map. -/
import Derived.Test.YtaooglagddphnaaAdQ
namespace Go.Proofs.Ytaooglagddphnaa
open Go.RowKit

set_option maxRecDepth 100000

/-- What is no edge's cell stays. -/
def Kl (V S T : Int) (f f' : Nat → Int) : Prop := (∀ a b : Nat, (a : Int) < V → (b : Int) < lv V → f' (hC V S T a b) = f (hC V S T a b)) ∧ ∀ z : Nat, 1 ≤ z → (z : Int) ≤ 2 * S → f' (pvC S T z) = f (pvC S T z) ∧ f' (nxC S T z) = f (nxC S T z)
section
variable {w w' w0 : World} {base q eb lb ob lo xb p gb cap m m' n nl : Nat} {V S T : Int} {f f' : Nat → Int} {mk mk' : Nat → Nat} {ts : List Tp} {bs bs' : List E1} {qq qq' : Nat → Nat → List Nat} {G : Value → Value → Prop} {D : Nat → Nat → List Nat} {kd s u v l : Int} {e x : E1} {i k : Nat}
theorem LQ.turn (h : LQ V S T f qq) (hk : Kl V S T f f') : LQ V S T f' qq := by
  refine ⟨h.ou, fun v l hv hl => ?_, h.nd, h.rg, h.ap, fun x h1 h2 => ?_, fun x h1 h2 hd y hy e => ?_⟩
  · obtain ⟨g1, c, g2⟩ := h.pt v l hv hl
    exact ⟨by rw [hk.1 v l hv hl]; exact g1, c, g2.cong fun z hz => hk.2 z (h.rg v l z hz).1 (h.rg v l z hz).2⟩
  · rw [(hk.2 x h1 h2).1, (hk.2 x h1 h2).2]; exact h.bd x h1 h2
  · rw [(hk.2 x h1 h2).1] at e
    obtain ⟨a, b, g1, g2, _⟩ := h.bd x h1 h2
    have hy2 : (y : Int) ≤ 2 * S := by omega
    rw [(hk.2 y hy hy2).2]
    exact h.dd x h1 h2 hd y hy e
theorem putF_kl (hR : Rt V S T) (h1 : e.u < e.v) (h2 : (e.v : Int) < V) (h3 : (e.s : Int) < S) : Kl V S T f (putF V S T f e) := by
  unfold putF
  refine ⟨fun a b ha hb => ?_, fun z z1 z2 => ⟨?_, ?_⟩⟩
  · rw [upd_other _ _ (fun q => eC_hC hR (by omega) h2 (by omega) ha hb q.symm), upd_other _ _ (fun q => sC_hC hR h3 (by decide) ha hb q.symm), upd_other _ _ (fun q => sC_hC hR h3 (by decide) ha hb q.symm)]
  · rw [upd_other _ _ (fun q => eC_pv hR (by omega) h2 (by omega) z1 z2 q.symm), upd_other _ _ (fun q => s_pv hR h3 (by decide) z1 z2 q.symm), upd_other _ _ (fun q => s_pv hR h3 (by decide) z1 z2 q.symm)]
  · rw [upd_other _ _ (fun q => eC_nx hR (by omega) h2 (by omega) z1 z2 q.symm), upd_other _ _ (fun q => s_nx hR h3 (by decide) z1 z2 q.symm), upd_other _ _ (fun q => s_nx hR h3 (by decide) z1 z2 q.symm)]
theorem rem_kl (hR : Rt V S T) (h1 : e.u < e.v) (h2 : (e.v : Int) < V) {y : Int} : Kl V S T f (upd f (eC V S T e.u e.v) y) :=
  ⟨fun a b ha hb => upd_other _ _ (fun q => eC_hC hR (by omega) h2 (by omega) ha hb q.symm), fun z z1 z2 => ⟨upd_other _ _ (fun q => eC_pv hR (by omega) h2 (by omega) z1 z2 q.symm), upd_other _ _ (fun q => eC_nx hR (by omega) h2 (by omega) z1 z2 q.symm)⟩⟩
theorem lift_kl (hR : Rt V S T) (h3 : (e.s : Int) < S) {y : Int} : Kl V S T f (upd f (sC S T e.s 2) y) :=
  ⟨fun a b ha hb => upd_other _ _ (fun q => sC_hC hR h3 (by decide) ha hb q.symm), fun z z1 z2 => ⟨upd_other _ _ (fun q => s_pv hR h3 (by decide) z1 z2 q.symm), upd_other _ _ (fun q => s_nx hR h3 (by decide) z1 z2 q.symm)⟩⟩
theorem ER.perm (h : ER V S T f bs) (hp : bs.Perm bs') : ER V S T f bs' :=
  ⟨fun e he => h.ok e (hp.mem_iff.2 he), (hp.pairwise_iff (fun hab => ⟨Ne.symm hab.1, fun c => hab.2 ⟨c.1.symm, c.2.symm⟩⟩)).1 h.un, fun e he => h.is e (hp.mem_iff.2 he), fun u v h1 h2 h3 => h.no u v h1 h2 fun e he => h3 e (hp.mem_iff.1 he)⟩
theorem ER.lift2 (h : ER V S T f bs) (hR : Rt V S T) (hi : bs[i]? = some x) (hk : (k : Int) < lv V) : ER V S T (upd f (sC S T x.s 2) (k : Int)) (bs.eraseIdx i ++ [{ x with l := k }]) := by
  refine (h.lift hR hi hk).perm ?_
  have hl := (List.getElem?_eq_some_iff.1 hi).1
  exact (ChangeMaps.set_perm _ _ hl _).trans (List.perm_append_singleton _ _).symm
theorem PM12.turn (h : PM12 w0 w base q eb lb V S T p gb cap m n f mk ts bs qq) (hk : Kl V S T f f') (hm : TA w' V S T p gb cap m' f' mk ts) (ho : Only p gb w w') : PM12 w0 w' base q eb lb V S T p gb cap m' n f' mk ts bs qq := ⟨h.ps.next hm ho, h.lq.turn hk, h.mq, h.lk⟩
theorem PM12.here (h : PM12 w0 w base q eb lb V S T p gb cap m n f mk ts bs qq) : PM12 w w base q eb lb V S T p gb cap m n f mk ts bs qq := ⟨h.ps.here, h.lq, h.mq, h.lk⟩
theorem PM12.over (h : PM12 w0 w base q eb lb V S T p gb cap m n f mk ts bs qq) {m' n' : Nat} (h2 : PM12 w w' base q eb lb V S T p gb cap m' n' f' mk' ts bs' qq') : PM12 w0 w' base q eb lb V S T p gb cap m' n' f' mk' ts bs' qq' := ⟨h.ps.over h2.ps, h2.lq, h2.mq, h2.lk⟩
theorem SX12.turn (h : SX12 w0 w base q eb lb ob lo V S T p gb cap m n f mk ts bs qq kd s u v l) (hk : Kl V S T f f') (hm : TA w' V S T p gb cap m' f' mk ts) (ho : Only p gb w w') : SX12 w0 w' base q eb lb ob lo V S T p gb cap m' n f' mk ts bs qq kd s u v l :=
  ⟨h.pm.turn hk hm ho, Blk.ta h.fo h.pm.ps.ta ho (by decide) (by decide), Blk.ta h.fl h.pm.ps.ta ho (by decide) (by decide)⟩
/-- Behind the play's own calls. -/
theorem SX12.over (h : SX12 w0 w base q eb lb ob lo V S T p gb cap m n f mk ts bs qq kd s u v l) {m' n' : Nat} (h2 : PM12 w w' base q eb lb V S T p gb cap m' n' f' mk' ts bs' qq') : SX12 w0 w' base q eb lb ob lo V S T p gb cap m' n' f' mk' ts bs' qq' kd s u v l :=
  ⟨h.pm.over h2, h2.ps.kb _ _ _ h.fo (by decide) (by decide), h2.ps.kb _ _ _ h.fl (by decide) (by decide)⟩
/-- A store into a block of the call's own. -/
theorem PM12.other (h : PM12 w0 w base q eb lb V S T p gb cap m n f mk ts bs qq) {cs : Array Value} (hx : Blk w xb 55 cs) (h0 : w0.heap.size ≤ xb) (hb : base ≤ xb) (j : Nat) (y : Value) : PM12 w0 (w.setCell ⟨xb, j, none⟩ y) base q eb lb V S T p gb cap m n f mk ts bs qq := by
  have hg : w.grownBy (w.setCell ⟨xb, j, none⟩ y) (some xb) := ⟨rfl, rfl, rfl, by simp [World.setCell], fun k hk hne => Below.heap_setCell w ⟨xb, j, none⟩ _ k (by rintro rfl; exact hne rfl)⟩
  have ne : ∀ {i : Nat} {ty : TypeId} {cs : Array Value}, Blk w i ty cs → 55 ≠ ty → some xb ≠ some i := fun hi ht e => Blk.ne_ hx hi ht (by injection e)
  obtain ⟨_, _, _, B, _⟩ := h.ps.ta.em
  obtain ⟨us, hz, _⟩ := B.cells
  refine ⟨⟨Blk.grown h.ps.pb hg (ne h.ps.pb (by decide)), h.ps.ta.grown hg (ne B.own (by decide)) (ne hz (by decide)), h.ps.fe.keep (hg.block eb h.ps.fe.lt fun e => h.ps.fe.ne_blk hx (by injection e)), h.ps.fl.grown hg (fun e => h.ps.fl.ne_blk hx (by injection e with e; exact e.symm)) (fun i zs hi => ne hi (by decide)), h.ps.be.grown hg h.ps.bsz (fun i e => by injection e with e; rw [← e]; exact hb), h.ps.bo, fun i ty cs hi h1 h2 => ?_⟩, h.lq, h.mq, h.lk⟩
  have hlt := hi.lt
  exact Blk.grown (h.ps.kb i ty cs hi h1 h2) hg (fun e => by injection e with e; omega)
theorem SX12.other (h : SX12 w0 w base q eb lb ob lo V S T p gb cap m n f mk ts bs qq kd s u v l) {cs : Array Value} (hx : Blk w xb 55 cs) (h0 : w0.heap.size ≤ xb) (hb : base ≤ xb) (j : Nat) (y : Value) : SX12 w0 (w.setCell ⟨xb, j, none⟩ y) base q eb lb ob lo V S T p gb cap m n f mk ts bs qq kd s u v l :=
  ⟨h.pm.other hx h0 hb j y, Blk.far (p := ⟨xb, j, none⟩) h.fo (Blk.ne_ h.fo hx (by decide)) _, Blk.far (p := ⟨xb, j, none⟩) h.fl (Blk.ne_ h.fl hx (by decide)) _⟩
/-- A look at the edges' map: in every world that has the same map. -/
theorem fe_look (h : FM 3 w eb n (Ge bs)) {s : Int} (hs : -9223372036854775808 ≤ s ∧ s ≤ 9223372036854775807) : ∃ (a b d : Nat) (t c : Bool), (c = true → ∃ x ∈ bs, s = (x.s : Int) ∧ a = x.u ∧ b = x.v ∧ d = x.l ∧ t = x.t) ∧ (c = false → ∀ x ∈ bs, (x.s : Int) ≠ s) ∧
    ∀ W : World, W.heap[eb]? = w.heap[eb]? → (Instr.lookup 42 (.map (some eb)) (.int .i64 s) true).run Try.prog W = .ok (.tuple #[vEd a b d t, .bool c]) W := by
  by_cases c : ∃ x ∈ bs, (x.s : Int) = s
  · obtain ⟨x, hx, e⟩ := c
    refine ⟨x.u, x.v, x.l, x.t, true, fun _ => ⟨x, hx, e.symm, rfl, rfl, rfl, rfl⟩, (by intro h; cases h), fun W hW => (h.keep hW).look_some true keyedI Try.underlying42 (keyI s hs) ⟨x, hx, by rw [e], rfl⟩⟩
  · refine ⟨0, 0, 0, false, false, (by intro h; cases h), fun _ x hx e => c ⟨x, hx, e⟩, fun W hW => (h.keep hW).look_none true keyedI Try.underlying42 (zeroEd W) (keyI s hs) fun v ⟨x, hx, e, _⟩ => c ⟨x, hx, by injection e with _ e; exact e.symm⟩⟩
end
end Go.Proofs.Ytaooglagddphnaa
