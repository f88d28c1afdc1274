/- A list of numbers of the call's own: copied from a slice that came in, nil or not; read and stored. -/
import Derived.Test.YtjnnohajmblfkaaTrO
import Derived.Laws.AppendOwnNone
namespace Go.Proofs.Ytjnnohajmblfkaa
open Go.RowKit

section
variable {P : Program} (w : World)
/-- append onto a slice of the call's own, of another one, nil or not. -/
theorem wpList_append_opt {ops : Array Oper} {rest : List Oper} {o : Oper} {a : Act} {Q : Exit → Act → World → Prop} (hgd : o.guard = none) (s x : Operand) (t : TypeId)
    (ho : o.op = .call { callee := .builtin .append, args := #[s, x], argTypes := #[t, t] })
    (base : Nat) (e : TypeId) (i : TypeInfo) (z : Value) (size bytes : Nat) (ht : P.underlying t = some (.slice e)) (hi : P.info? e = some i) (hz : i.zero = some z)
    (hsize : i.size = size) (hby : i.bytes = bytes) (hzs : z.cells.size = size) (hsz : 0 < size)
    (v : Value) (n : Nat) (xs : List Value) (hs : a.eval s = v) (hown : w.ownsRow base e size v n xs)
    (oa : Option Addr) (m c : Nat) (news : List Value) (hx : a.eval x = .slice oa m c) (h0 : oa = none → m = 0 ∧ c = 0) (hl : news.length = m * size) (hnews : ∀ ad, oa = some ad → ∀ (j : Nat) u, news[j]? = some u → w.cell? (ad.add j) = some u) (h1 : ∀ u ∈ news, u.oneCell' = true)
    (h63 : n + m ≤ maxLen) (hbytes : (n + m) * bytes ≤ 140737488355328) (hbase : base ≤ w.heap.size)
    (h : ∀ v' w', w'.ownsRow base e size v' (n + m) (xs ++ news) → w.grownBy w' v.ownBlock → (v' = .slice none 0 0 → v = .slice none 0 0) → (v'.ownBlock = v.ownBlock ∨ v'.ownBlock = some w.heap.size) → wpList P ops Q rest (a.put o.dst v') w') :
    wpList P ops Q (o :: rest) a w := by
  cases oa with
  | none =>
    obtain ⟨rfl, rfl⟩ := h0 rfl
    have hn : news = [] := List.eq_nil_of_length_eq_zero (by omega)
    subst hn
    exact wpList_append_own_none hgd s x t ho base e i size ht hi v n xs hs hown hx (h v w (by simpa using hown) ⟨rfl, rfl, rfl, Nat.le_refl _, fun _ _ _ => rfl⟩ id (.inl rfl))
  | some ad =>
    exact wpList_append_own_at w hgd s x t ho base e i z size bytes ht hi hz hsize hby hzs hsz v n xs hs hown ad m c news hx hl (hnews ad rfl) h1 h63 hbytes hbase (fun v' w' a1 a2 a3 a4 => h v' w' a1 a2 (fun e => (a3.1 e).1) a4)
end

/-- A plain list in memory. -/
def Rw (w : World) (g n : Nat) (f : Nat → Int) : Prop := ∃ zs : Array Value, Blk w g 32 zs ∧ ∀ k, k < n → zs[k]? = some (.int .u64 (f k))

section
variable {w w' : World} {g n : Nat} {f : Nat → Int}
theorem Rw.cell (h : Rw w g n f) {k : Nat} (hk : k < n) : w.cell? ⟨g, k, none⟩ = some (.int .u64 (f k)) := by
  obtain ⟨zs, hz, he⟩ := h
  exact (hz.cell k).trans (he k hk)
theorem Rw.fz (h : Rw w g n f) (i : Nat) : w.frozen? ⟨g, i, none⟩ = false := by
  obtain ⟨zs, hz, _⟩ := h
  exact hz.frozen i
theorem Rw.lt (h : Rw w g n f) : g < w.heap.size := by
  obtain ⟨zs, hz, _⟩ := h
  exact hz.lt
theorem Rw.alloc (h : Rw w g n f) (o : Obj) : Rw (w.alloc o) g n f := by
  obtain ⟨zs, hz, he⟩ := h
  exact ⟨zs, hz.alloc o, he⟩
theorem Rw.drew (h : Rw w g n f) : Rw w.drew g n f := h
theorem Rw.drewN (h : Rw w g n f) (q : Nat) : Rw (w.drewN q) g n f := h
theorem Rw.below (h : Rw w g n f) (hb : Below w.heap.size w w') : Rw w' g n f := by
  obtain ⟨zs, hz, he⟩ := h
  exact ⟨zs, hz.below hb hz.lt, he⟩
theorem Rw.only {p' g' : Nat} (h : Rw w g n f) (ho : Only p' g' w w') (h1 : g ≠ p') (h2 : g ≠ g') : Rw w' g n f := by
  obtain ⟨zs, hz, he⟩ := h
  exact ⟨zs, hz.only ho h1 h2, he⟩
theorem Rw.far (h : Rw w g n f) {b o : Nat} (hb : g ≠ b) (u : Value) : Rw (w.setCell ⟨b, o, none⟩ u) g n f := by
  obtain ⟨zs, hz, he⟩ := h
  exact ⟨zs, hz.far hb _, he⟩
theorem Rw.set_ (h : Rw w g n f) {k : Nat} (hk : k < n) (v : Int) : Rw (w.setCell ⟨g, k, none⟩ (.int .u64 v)) g n (upd f k v) := by
  obtain ⟨zs, hz, he⟩ := h
  refine ⟨_, hz.set_ k _, fun i hi => ?_⟩
  by_cases e : i = k
  · subst e
    have hs : i < zs.size := by
      have := he i hi
      rcases Nat.lt_or_ge i zs.size with hlt | hge
      · exact hlt
      · rw [Array.getElem?_eq_none hge] at this; cases this
    simp [upd, hs]
  · rw [Array.getElem?_setIfInBounds_ne (fun h => e h.symm), he i hi, upd_other _ _ e]
theorem Ar.far {p g n cap : Nat} {c f : Nat → Int} (A : Ar w p g n cap c f) {b o : Nat} (h1 : p ≠ b) (h2 : g ≠ b) (u : Value) : Ar (w.setCell ⟨b, o, none⟩ u) p g n cap c f := by
  obtain ⟨zs, hz, he⟩ := A.cells
  exact ⟨A.own.far h1 _, ⟨zs, hz.far h2 _, he⟩, A.le, A.few, A.fit⟩
/-- What an append leaves, as a list. -/
theorem Rw.of_owns {base : Nat} {v : Value} (h : w.ownsRow base 32 1 v n ((List.range n).map fun k => Value.int .u64 (f k))) (hv : v ≠ .slice none 0 0) :
    ∃ g cap, v = .slice (some ⟨g, 0, none⟩) n cap ∧ base ≤ g ∧ Rw w g n f := by
  rcases h.2 with ⟨h0, _⟩ | ⟨g, cap, cur, rfl, hg, hh, hnc, _, hcs, htake⟩
  · exact absurd h0 hv
  · refine ⟨g, cap, rfl, hg, cur, hh, fun k hk => ?_⟩
    have h1 : (cur.toList.take (n * 1))[k]? = some (.int .u64 (f k)) := by rw [htake]; simp [hk]
    rw [List.getElem?_take_of_lt (by omega)] at h1
    simpa using h1
end

theorem Below.drewd {B : Nat} {a w : World} (h : Below B a w) : Below B a w.drew := ⟨h.os, h.tape, h.output, h.size, h.block⟩
theorem Below.far {B : Nat} {a w : World} (h : Below B a w) {b o : Nat} (hb : B ≤ b) (u : Value) : Below B a (w.setCell ⟨b, o, none⟩ u) := h.setCell hb u

theorem nums_news {w : World} {a : Option Addr} {n : Nat} {f : Nat → Int} (h : Nums w a n f) : ∀ ad, a = some ad → ∀ (j : Nat) u, ((List.range n).map fun k => Value.int .u64 (f k))[j]? = some u → w.cell? (ad.add j) = some u := by
  intro ad e j u hu
  have hj : j < n := by simpa using (List.getElem?_eq_some_iff.1 hu).1
  obtain ⟨b, off, e', hc⟩ := h (by omega)
  rw [e] at e'
  cases e'
  have eu : u = .int .u64 (f j) := by simpa [hj] using hu.symm
  subst eu
  rw [Addr.add_lit]
  exact (hc j hj).1
theorem nums_one {n : Nat} {f : Nat → Int} : ∀ u ∈ ((List.range n).map fun k => Value.int .u64 (f k)), u.oneCell' = true := by
  intro u hu
  obtain ⟨x, _, rfl⟩ := List.mem_map.1 hu
  rfl

/-- The first access that isn't as it should be, or the row's end. -/
structure FirstBad (n : Nat) (f : Nat → Int) (xs : List AccV) (k : Nat) : Prop where
  le : k ≤ xs.length
  ok : ∀ j x, j < k → xs[j]? = some x → okA n (playL n f (xs.take j)) x = true
  bad : ∀ x, xs[k]? = some x → okA n (playL n f (xs.take k)) x = false

theorem FirstBad.unique {n : Nat} {f : Nat → Int} {xs : List AccV} {k k' : Nat} (h : FirstBad n f xs k) (h' : FirstBad n f xs k') : k = k' := by
  have main : ∀ {k k'}, FirstBad n f xs k → FirstBad n f xs k' → ¬ k < k' := by
    intro k k' h h' hlt
    have hk : k < xs.length := Nat.lt_of_lt_of_le hlt h'.le
    have e := List.getElem?_eq_getElem hk
    have h1 := h.bad _ e
    rw [h'.ok k _ hlt e] at h1
    cases h1
  have h1 := main h h'
  have h2 := main h' h
  omega
/-- Numbers that came in, nil or not. -/
theorem open_numc {H : Type} {enc : TypeId × Value → H} {w : World} {base fuel : Nat} {held : Bool} {a : Option Addr} {len cap : Nat} {x : DataW H × List MemPlace}
    (h : DataW.trod enc Try.prog w base (fun _ => true) held fuel 22 [.slice a len cap] = some x) : ∃ f, Nums w a len f ∧ (a = none → len = 0 ∧ cap = 0) := by
  obtain ⟨f, hf⟩ := open_nums h
  refine ⟨f, hf, fun ha => ?_⟩
  subst ha
  rcases Go.ChangeShapes.open_ints Try.underlying22 Try.underlying32 (by kernel_rfl) h with ⟨hcs, _⟩ | ⟨y, l, c, zs, hcs, _⟩
  · simp at hcs
    exact hcs
  · simp at hcs
end Go.Proofs.Ytjnnohajmblfkaa
