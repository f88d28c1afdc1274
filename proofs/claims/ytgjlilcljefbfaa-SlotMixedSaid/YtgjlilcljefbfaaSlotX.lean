/- A whole play in memory, step by step. -/
import Derived.Test.YtgjlilcljefbfaaSlotW
namespace Go.Proofs.Ytgjlilcljefbfaa
open Go.RowKit

set_option maxRecDepth 100000

/-- A play in memory: its arena, its workers, each in blocks of its own. -/
structure PM (w : World) (pb p g n cap S m M W0 nW : Nat) (av : Value) (wb qb : Nat → Nat) (hv : Nat → Value) (c f : Nat → Int) (y : Sm) : Prop where
  sa : SA w p g n cap 1 S M m c f y.x.hd y.x.nx
  pl : PlB w pb p S av
  wk : ∀ i, i < nW → WkM w (wb i) (qb i) S (hv i) (y.x.ws i).k (y.x.ws i).has
  fit : ∀ i, i < nW → (y.x.ws i).k.fit S M
  dis : ∀ i j, i < nW → j < nW → i ≠ j → ∀ x, Foot (wb i) (qb i) (hv i) (y.x.ws i).k x → ¬ Foot (wb j) (qb j) (hv j) (y.x.ws j).k x
  new : ∀ i, i < nW → ∀ x, Foot (wb i) (qb i) (hv i) (y.x.ws i).k x → W0 ≤ x
  c2 : c 2 = (y.sw : Int)
  c3 : c 3 = (y.ms : Int)

/-- What may turn while workers step. -/
def PF (p g nW : Nat) (wb qb : Nat → Nat) (hv : Nat → Value) (ws : Nat → Wr) (x : Nat) : Prop := x = p ∨ x = g ∨ ∃ i, i < nW ∧ Foot (wb i) (qb i) (hv i) (ws i).k x

section
variable {w w' : World} {pb p g n cap S m M W0 nW : Nat} {av : Value} {wb qb : Nat → Nat} {hv : Nat → Value} {c f : Nat → Int} {y : Sm}
theorem PM.below (h : PM w pb p g n cap S m M W0 nW av wb qb hv c f y) (hb : Below w.heap.size w w') : PM w' pb p g n cap S m M W0 nW av wb qb hv c f y :=
  ⟨h.sa.below hb, Blk.below h.pl hb (Blk.lt h.pl), fun i hi => (h.wk i hi).below hb, h.fit, h.dis, h.new, h.c2, h.c3⟩
theorem PM.drew (h : PM w pb p g n cap S m M W0 nW av wb qb hv c f y) : PM w.drew pb p g n cap S m M W0 nW av wb qb hv c f y := h.below (Below.refl _ _).drew
theorem PM.alloc (h : PM w pb p g n cap S m M W0 nW av wb qb hv c f y) (o : Obj) : PM (w.alloc o) pb p g n cap S m M W0 nW av wb qb hv c f y := h.below ((Below.refl _ _).alloc (Nat.le_refl _) o)
theorem PM.only {c' : Nat → Int} {m' : Nat} (h : PM w pb p g n cap S m M W0 nW av wb qb hv c f y) (A : SA w' p g n cap 1 S M m' c' f y.x.hd y.x.nx) (ho : Only p g w w') (e2 : c' 2 = c 2) (e3 : c' 3 = c 3) : PM w' pb p g n cap S m' M W0 nW av wb qb hv c' f y := by
  obtain ⟨zs, hz, _⟩ := h.sa.1.cells
  exact ⟨A, Blk.only h.pl ho (Blk.ne_ h.pl h.sa.1.own (by decide)) (Blk.ne_ h.pl hz (by decide)), fun i hi => (h.wk i hi).keep fun x hx => ho.block x ((h.wk i hi).foot_lt hx) (fun e => ((h.wk i hi).ne_ar h.sa.1).1 (e ▸ hx)) (fun e => ((h.wk i hi).ne_ar h.sa.1).2 (e ▸ hx)), h.fit, h.dis, h.new, e2.trans h.c2, e3.trans h.c3⟩
/-- A block that isn't any worker's, nor the arena's. -/
theorem PM.far (h : PM w pb p g n cap S m M W0 nW av wb qb hv c f y) {i : Nat} {ty : TypeId} {cs : Array Value} (hi : Blk w i ty cs) (h0 : 82 ≠ ty) (h0' : 65 ≠ ty) (h1 : 50 ≠ ty) (h2 : 77 ≠ ty) (h3 : 71 ≠ ty) (h4 : 3 ≠ ty) : ¬ PF p g nW wb qb hv y.x.ws i := by
  rintro (rfl | rfl | ⟨j, hj, hf⟩)
  · exact h.sa.1.own.ne_ hi h0 rfl
  · obtain ⟨zs, hz, _⟩ := h.sa.1.cells
    exact hz.ne_ hi h0' rfl
  · exact (h.wk j hj).foot_ne hi h1 h2 h3 h4 hf

theorem stepW_fit {hd : Nat × Nat} {nx : Nat → Nat} {t : Nat} {k : Wk} {hs : List Nat} (R : Rep t S M f hd nx) (hf : k.fit S M) (hk : k ≠ .idle) : (stepW hd nx k hs).k.fit S M := by
  unfold stepW
  split
  · rename_i h; exact R.fit hf h
  · rename_i h
    refine R.fitG hf ?_
    cases k <;> simp_all [Wk.isTake, Wk.isGive]
theorem beginW_idle {gives : Bool} {r : Wr} : (beginW gives r).k ≠ .idle := by
  rcases r with ⟨k, hs⟩
  cases k with
  | idle => cases hs <;> cases gives <;> simp [beginW]
  | _ => simp [beginW]
theorem beginW_fit {gives : Bool} {r : Wr} (hf : r.k.fit S M) (hl : ∀ s ∈ r.has, s < S) : (beginW gives r).k.fit S M := by
  rcases r with ⟨k, hs⟩
  cases k with
  | idle =>
    cases hs with
    | nil => trivial
    | cons s hs =>
      cases gives
      · trivial
      · exact hl s (List.mem_cons_self ..)
  | _ => exact hf

/-- What a step leaves of a whole play. -/
def Stepped (pb p g n cap S m M W0 nW i : Nat) (gives : Bool) (av : Value) (wb qb : Nat → Nat) (hv : Nat → Value) (y : Sm) (w : World) (e : Ending) (w' : World) : Prop :=
  e = .returned (.bool true) ∧ ∃ qb' hv' c' f', PM w' pb p g n cap S (m + 1) (M + 1) W0 nW av wb qb' hv' c' f' (access (begin1 y i gives) i) ∧ OnlyF (PF p g nW wb qb hv y.x.ws) w w'

theorem pm_step {L : List Nat} {i : Nat} (gives : Bool) (hS : S ≤ 48) (hn : 1 < n) (hn2 : ∀ s, s < S → 1 + 1 + s * 7 < n) (h : PM w pb p g n cap S m M W0 nW av wb qb hv c f y) (hok : SlOk S nW y.x L) (hi : i < nW) (hW : W0 ≤ w.heap.size) (hM : M ≤ 10000) (hm2 : m ≤ 100000) :
    Calls Try.prog 19 #[.pointer (some ⟨pb, 0, none⟩), .pointer (some ⟨wb i, 0, none⟩), .bool gives] w (Stepped pb p g n cap S m M W0 nW i gives av wb qb hv y w) := by
  have hlt : ∀ s ∈ (y.x.ws i).has, s < S := fun s hs => hok.lt_of_held hi (List.mem_append.2 (.inl hs))
  have hlen : (y.x.ws i).has.length ≤ 48 := by
    have h1 := (hok.held_nodup hi)
    have h2 : (y.x.ws i).has.Nodup := (List.nodup_append.1 h1).1
    have := nodup_len h2 hlt
    omega
  have hg : ∀ g m, (y.x.ws i).k = .take2 g m → g.2 ≠ 0 := fun g m e => by
    have := hok.each i hi
    rw [e] at this
    exact this.2.1
  refine (playStep_any gives hS hn hn2 h.sa h.pl (h.wk i hi) (h.fit i hi) hlt hlen hM hm2).mono ?_
  rintro e w' ⟨rfl, f', q', hv', A', W', P', O', F'⟩
  refine ⟨rfl, put qb i q', put hv i hv', upd c (stepW y.x.hd y.x.nx (beginW gives (y.x.ws i)).k (beginW gives (y.x.ws i)).has).j (c (stepW y.x.hd y.x.nx (beginW gives (y.x.ws i)).k (beginW gives (y.x.ws i)).has).j + 1), f', ?_, ?_⟩
  · rw [access_step y i gives hg]
    have hfit2 := stepW_fit (hs := (beginW gives (y.x.ws i)).has) h.sa.2.1 (beginW_fit (gives := gives) (h.fit i hi) hlt) beginW_idle
    refine ⟨A', P', fun j hj => ?_, fun j hj => ?_, fun j1 j2 h1 h2 hne x hx => ?_, fun j hj x hx => ?_, upd_sw _ _ _ h.c2, upd_ms _ _ _ h.c3⟩
    · by_cases e : j = i
      · subst e
        simp only [put_same]
        exact W'
      · simp only [put_other _ _ e]
        refine (h.wk j hj).onlyF O' fun x hx hF => ?_
        rcases hF with rfl | rfl | hF
        · exact ((h.wk j hj).ne_ar h.sa.1).1 hx
        · exact ((h.wk j hj).ne_ar h.sa.1).2 hx
        · exact h.dis j i hj hi e x hx hF
    · by_cases e : j = i
      · subst e
        simp only [put_same]
        exact hfit2.more (by omega)
      · simp only [put_other _ _ e]
        exact (h.fit j hj).more (by omega)
    · by_cases e1 : j1 = i
      · subst e1
        have e2 : j2 ≠ j1 := fun e => hne e.symm
        simp only [put_same, put_other _ _ e2] at hx ⊢
        rcases F' x hx with h3 | h3
        · exact h.dis j1 j2 h1 h2 hne x h3
        · intro h4
          have := (h.wk j2 h2).foot_lt h4
          omega
      · by_cases e2 : j2 = i
        · subst e2
          simp only [put_same, put_other _ _ e1] at hx ⊢
          intro h4
          rcases F' x h4 with h3 | h3
          · exact h.dis j1 j2 h1 h2 hne x hx h3
          · have := (h.wk j1 h1).foot_lt hx
            omega
        · simp only [put_other _ _ e1, put_other _ _ e2] at hx ⊢
          exact h.dis j1 j2 h1 h2 hne x hx
    · by_cases e : j = i
      · subst e
        simp only [put_same] at hx
        rcases F' x hx with h3 | h3
        · exact h.new j hj x h3
        · omega
      · simp only [put_other _ _ e] at hx
        exact h.new j hj x hx
  · exact ⟨O'.os, O'.tape, O'.output, O'.size, fun x hx hn => O'.block x hx (fun hF => hn (by
      rcases hF with rfl | rfl | hF
      · exact .inl rfl
      · exact .inr (.inl rfl)
      · exact .inr (.inr ⟨i, hi, hF⟩)))⟩
end
end Go.Proofs.Ytgjlilcljefbfaa
