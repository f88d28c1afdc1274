/- The law's step: its state apart from what the levels have; rows told anew, edges told anew; append of rows as an operation of a region that draws its order. -/
import Derived.Test.YtahabfjngeicmaaZTouQ
import Derived.Deep.AppendLies
namespace Go.Proofs.Ytahabfjngeicmaa
open Go.RowKit

set_option maxRecDepth 100000

/-- A step's state, without what the levels have. -/
structure SG (w0 W : World) (ob lo : Nat) (kd a b c d : Int) (V S T : Int) (n q p gb cap rb lb cr cl base : Nat) (gB : Nat → Nat) (m : Nat) (g : Mg9) (ts : List Tp) (vr : Nat → Value) (rs : Nat → List (List Nat)) (gr : Nat → List (Option (Nat × Nat))) : Prop where
  o : Blk W ob 29 #[.int .i64 kd, .int .i64 a, .int .i64 b, .int .i64 c, .int .i64 d]
  l : Blk W lo 23 #[.int .i64 V, .int .i64 S, .int .i64 T]
  pg : PG W V S T n q p gb cap rb lb cr cl base gB m g ts vr rs gr
  be : Below base w0 W
  bs : base ≤ w0.heap.size
section
variable {w w' W w0 : World} {V S T kd a b c d : Int} {ob lo n q p gb cap rb lb cr cl base m m' L s i k : Nat} {gB : Nat → Nat} {g g' : Mg9} {ts ts' : List Tp} {vr vr' : Nat → Value} {rs rs' : Nat → List (List Nat)} {gr gr' : Nat → List (Option (Nat × Nat))} {v u : Value} {rows news : List (List Nat)} {r : List Nat} {e : Option (Nat × Nat)}
theorem SI.sg (h : SI w0 w ob lo kd a b c d V S T n q p gb cap rb lb cr cl base gB m g ts vr rs gr) : SG w0 w ob lo kd a b c d V S T n q p gb cap rb lb cr cl base gB m g ts vr rs gr := ⟨h.o, h.l, h.pl.pg, h.be, h.bs⟩
theorem SG.sb (h : SG w0 w ob lo kd a b c d V S T n q p gb cap rb lb cr cl base gB m g ts vr rs gr) : SB w ob lo q p rb lb n cr cl V S T kd a b c d := ⟨h.o, h.l, h.pg.blk⟩
theorem SG.lt (h : SG w0 w ob lo kd a b c d V S T n q p gb cap rb lb cr cl base gB m g ts vr rs gr) : ob < w.heap.size ∧ lo < w.heap.size ∧ q < w.heap.size ∧ rb < w.heap.size ∧ lb < w.heap.size := ⟨h.o.lt, h.l.lt, h.pg.lt, h.pg.rb_lt, h.pg.lb_lt⟩
theorem SG.size (h : SG w0 w ob lo kd a b c d V S T n q p gb cap rb lb cr cl base gB m g ts vr rs gr) : base ≤ w.heap.size := Nat.le_trans h.bs h.be.size
theorem SG.below (h : SG w0 w ob lo kd a b c d V S T n q p gb cap rb lb cr cl base gB m g ts vr rs gr) (hb : Below w.heap.size w w') : SG w0 w' ob lo kd a b c d V S T n q p gb cap rb lb cr cl base gB m g ts vr rs gr := ⟨h.o.below hb h.o.lt, h.l.below hb h.l.lt, h.pg.below hb, h.be.trans (hb.mono h.size), h.bs⟩
theorem SG.drew (h : SG w0 w ob lo kd a b c d V S T n q p gb cap rb lb cr cl base gB m g ts vr rs gr) : SG w0 w.drew ob lo kd a b c d V S T n q p gb cap rb lb cr cl base gB m g ts vr rs gr := h.below (Below.refl _ _).drew
theorem SG.alloc (h : SG w0 w ob lo kd a b c d V S T n q p gb cap rb lb cr cl base gB m g ts vr rs gr) (x : Obj) : SG w0 (w.alloc x) ob lo kd a b c d V S T n q p gb cap rb lb cr cl base gB m g ts vr rs gr := h.below ((Below.refl _ _).alloc (Nat.le_refl _) _)
theorem SG.tree (h : SG w0 w ob lo kd a b c d V S T n q p gb cap rb lb cr cl base gB m g ts vr rs gr) (hf : FM w' V S T p gb cap m' g' ts') (ho : Only p gb w w') : SG w0 w' ob lo kd a b c d V S T n q p gb cap rb lb cr cl base gB m' g' ts' vr rs gr :=
  ⟨h.o.treap h.pg.fm.tm ho (by decide) (by decide), h.l.treap h.pg.fm.tm ho (by decide) (by decide), h.pg.tree hf ho, Only.below h.be ho h.size h.pg.bp h.pg.bg, h.bs⟩
theorem SG.setr (h : SG w0 w ob lo kd a b c d V S T n q p gb cap rb lb cr cl base gB m g ts vr rs gr) (hL : L < n) (hv : RsI w base v rows) : SG w0 (w.setCell ⟨rb, L, none⟩ v) ob lo kd a b c d V S T n q p gb cap rb lb cr cl base gB m g ts (fun y => if y = L then v else vr y) (fun y => if y = L then rows else rs y) gr := by
  obtain ⟨z1, a1, b1⟩ := h.pg.rw
  exact ⟨Blk.far (p := ⟨rb, L, none⟩) h.o (Blk.ne_ h.o a1 (by decide)) v, Blk.far (p := ⟨rb, L, none⟩) h.l (Blk.ne_ h.l a1 (by decide)) v, h.pg.set_rows hL hv, h.be.setCell h.pg.br v, h.bs⟩
/-- An edge is told anew. -/
theorem PG.set_link (h : PG w V S T n q p gb cap rb lb cr cl base gB m g ts vr rs gr) (hL : L < n) (hs : s < (gr L).length) (e : Option (Nat × Nat)) : PG ((w.setCell ⟨gB L, s * 2, none⟩ (.int .i64 (end1 e))).setCell ⟨gB L, s * 2 + 1, none⟩ (.int .i64 (end2 e))) V S T n q p gb cap rb lb cr cl base gB m g ts vr rs (fun y => if y = L then (gr L).set s e else gr y) := by
  obtain ⟨z1, a1, b1⟩ := h.rw
  obtain ⟨z2, a2, b2⟩ := h.lw
  obtain ⟨c0, z3, a3, b3⟩ := h.gs L hL
  have a4 := a3.set_ (s * 2) (.int .i64 (end1 e))
  have a5 := a4.set_ (s * 2 + 1) (.int .i64 (end2 e))
  have z0 := b3 s _ (List.getElem?_eq_getElem hs)
  have zs2 : s * 2 + 1 < z3.size := (Array.getElem?_eq_some_iff.1 z0.2).1
  have kp : ∀ {ty}, ty ≠ 36 → Kp ty w ((w.setCell ⟨gB L, s * 2, none⟩ (.int .i64 (end1 e))).setCell ⟨gB L, s * 2 + 1, none⟩ (.int .i64 (end2 e))) := fun hne i cs hb => Kp.set a4 hne _ _ i cs (Kp.set a3 hne _ _ i cs hb)
  refine ⟨kp (by decide) _ _ h.blk, ⟨(h.fm.tm.far a3 (by decide) (by decide) _).far a4 (by decide) (by decide) _, h.fm.fi⟩, ⟨z1, kp (by decide) _ _ a1, b1⟩, ⟨z2, kp (by decide) _ _ a2, b2⟩, fun y hy => (h.rs y hy).kp (kp (by decide)) (kp (by decide)), fun y hy => ?_, h.gd, h.hn, h.bq, h.bp, h.bg, h.br, h.bl, h.bB⟩
  by_cases ey : y = L
  · subst ey
    rw [if_pos rfl]
    refine ⟨by rw [List.length_set]; exact c0, _, a5, fun k e' he' => ?_⟩
    by_cases hk : k = s
    · subst hk
      rw [List.getElem?_set_self hs] at he'
      injection he' with he'
      subst he'
      constructor
      · rw [Array.getElem?_setIfInBounds_ne (by omega), Array.getElem?_setIfInBounds_self_of_lt (by omega)]
      · rw [Array.getElem?_setIfInBounds_self_of_lt (by rw [Array.size_setIfInBounds]; omega)]
    · rw [List.getElem?_set_ne (Ne.symm hk)] at he'
      obtain ⟨q1, q2⟩ := b3 k e' he'
      constructor
      · rw [Array.getElem?_setIfInBounds_ne (by omega), Array.getElem?_setIfInBounds_ne (by omega)]; exact q1
      · rw [Array.getElem?_setIfInBounds_ne (by omega), Array.getElem?_setIfInBounds_ne (by omega)]; exact q2
  · rw [if_neg ey]
    obtain ⟨c4, z4, a6, b6⟩ := h.gs y hy
    have hne : gB y ≠ gB L := fun e => ey (h.gd y L hy hL e)
    exact ⟨c4, z4, Blk.far (p := ⟨gB L, s * 2 + 1, none⟩) (Blk.far (p := ⟨gB L, s * 2, none⟩) a6 hne _) hne _, b6⟩
theorem SG.link (h : SG w0 w ob lo kd a b c d V S T n q p gb cap rb lb cr cl base gB m g ts vr rs gr) (hL : L < n) (hs : s < (gr L).length) (e : Option (Nat × Nat)) : SG w0 ((w.setCell ⟨gB L, s * 2, none⟩ (.int .i64 (end1 e))).setCell ⟨gB L, s * 2 + 1, none⟩ (.int .i64 (end2 e))) ob lo kd a b c d V S T n q p gb cap rb lb cr cl base gB m g ts vr rs (fun y => if y = L then (gr L).set s e else gr y) := by
  obtain ⟨c0, z3, a3, b3⟩ := h.pg.gs L hL
  have a4 := a3.set_ (s * 2) (.int .i64 (end1 e))
  have hB := h.pg.bB L hL
  exact ⟨Blk.far (p := ⟨gB L, s * 2 + 1, none⟩) (Blk.far (p := ⟨gB L, s * 2, none⟩) h.o (Blk.ne_ h.o a3 (by decide)) _) (Blk.ne_ h.o a3 (by decide)) _, Blk.far (p := ⟨gB L, s * 2 + 1, none⟩) (Blk.far (p := ⟨gB L, s * 2, none⟩) h.l (Blk.ne_ h.l a3 (by decide)) _) (Blk.ne_ h.l a3 (by decide)) _, h.pg.set_link hL hs e, (h.be.setCell hB _).setCell hB _, h.bs⟩
theorem SG.fin (h : SG w0 w ob lo kd a b c d V S T n q p gb cap rb lb cr cl base gB m' g ts vr rs gr) (hl : ∀ L, L < n → Lv V S L ts (rs L) (gr L)) (v8 : V ≤ 8) (s8 : S ≤ 8) (hm : m' ≤ m + 11000) : ∃ g' ts' vr' rs' gr', PL w V S T n q p gb cap rb lb cr cl base gB (m + 11000) g' ts' vr' rs' gr' ∧ Below base w0 w := ⟨_, _, _, _, _, ⟨h.pg.more hm, hl, v8, s8⟩, h.be⟩
/-- An edge's two cells. -/
theorem PG.link_cell (h : PG w V S T n q p gb cap rb lb cr cl base gB m g ts vr rs gr) (hL : L < n) (hs : (gr L)[s]? = some e) : w.cell? ⟨gB L, s * 2, none⟩ = some (.int .i64 (end1 e)) ∧ w.cell? ⟨gB L, s * 2 + 1, none⟩ = some (.int .i64 (end2 e)) ∧ w.frozen? ⟨gB L, s * 2, none⟩ = false ∧ w.frozen? ⟨gB L, s * 2 + 1, none⟩ = false ∧ gB L < w.heap.size := by
  obtain ⟨c0, z3, a3, b3⟩ := h.gs L hL
  obtain ⟨q1, q2⟩ := b3 s e hs
  exact ⟨(a3.cell _).trans q1, (a3.cell _).trans q2, a3.frozen _, a3.frozen _, a3.lt⟩
theorem PG.row_frozen (h : PG w V S T n q p gb cap rb lb cr cl base gB m g ts vr rs gr) (L : Nat) : w.frozen? ⟨rb, L, none⟩ = false := by
  obtain ⟨z1, a1, b1⟩ := h.rw
  exact a1.frozen L

/-- append of rows onto rows of one's own. -/
theorem run_append_rsi {base : Nat} (h : RsI w base v rows) (xs : List Value) (hx : xs.length = news.length) (hxs : ∀ (j : Nat) (u : Value) (r : List Nat), xs[j]? = some u → news[j]? = some r → LI w u r) (ad : Addr) (n c : Nat) (hn : n = news.length) (hc : ∀ (j : Nat) (u : Value), xs[j]? = some u → w.cell? (ad.add j) = some u) (hl : rows.length + news.length ≤ 100000) (hb : base ≤ w.heap.size) (ty : TypeId) :
    ∃ v' w', (Builtin.append_ #[100, 100] ty #[v, .slice (some ad) n c]).run Try.prog w = .ok v' w' ∧ RsI w' base v' (rows ++ news) ∧ w.grownBy w' v.ownBlock := by
  obtain ⟨i0, hi0, hz0, hz1, hz2⟩ := info_parts info_li
  obtain ⟨vs, hr, hlen, hli⟩ := h
  subst hn
  have hone : ∀ u ∈ xs, u.oneCell' = true := by
    intro u hu
    obtain ⟨j, hj⟩ := List.mem_iff_getElem?.1 hu
    have hjl := (List.getElem?_eq_some_iff.1 hj).1
    obtain ⟨a1, c1, e, _⟩ := (hxs j u _ hj (List.getElem?_eq_getElem (by omega))).shape
    rw [e]; rfl
  obtain ⟨v', w', hrun, h1, h2, _⟩ := run_append_own_at (P := Try.prog) w base 100 ty 53 i0 _ 1 24 Try.underlying100 hi0 hz0 hz1 hz2 rfl (by omega) v vs.length vs hr ad news.length c xs (by rw [hx, Nat.mul_one]) hc hone (by simp only [maxLen]; omega) (by omega) hb
  refine ⟨v', w', hrun, ⟨vs ++ xs, ?_, by simp [hlen, hx], fun j u r hu hr' => ?_⟩, h2⟩
  · unfold RowV; rw [List.length_append, hx]; exact h1
  · by_cases hj : j < vs.length
    · rw [List.getElem?_append_left hj] at hu
      rw [List.getElem?_append_left (by omega)] at hr'
      exact (hli j u r hu hr').grownBy_ h2 (hr.ne_li (hli j u r hu hr'))
    · rw [List.getElem?_append_right (by omega)] at hu
      rw [List.getElem?_append_right (by omega), ← hlen] at hr'
      exact (hxs _ u r hu hr').grownBy_ h2 (hr.ne_li (hxs _ u r hu hr'))
theorem step_append_rsi {ops : Array Oper} {o : Oper} {a : Act} {K : Act → World → Prop} {Q : Exit → Act → World → Prop} {E : Prop} (hgd : o.guard = none) (s x : Operand)
    (ho : o.op = .call { callee := .builtin .append, args := #[s, x], argTypes := #[100, 100] })
    {base : Nat} (hs : a.eval s = v) (h : RsI w base v rows) (xs : List Value) (hx : xs.length = news.length) (hxs : ∀ (j : Nat) (u : Value) (r : List Nat), xs[j]? = some u → news[j]? = some r → LI w u r) (ad : Addr) (n c : Nat) (hn : n = news.length) (hv : a.eval x = .slice (some ad) n c) (hc : ∀ (j : Nat) (u : Value), xs[j]? = some u → w.cell? (ad.add j) = some u) (hl : rows.length + news.length ≤ 100000) (hb : base ≤ w.heap.size)
    (hK : ∀ v' w', RsI w' base v' (rows ++ news) → w.grownBy w' v.ownBlock → K (a.put o.dst v') w') :
    if Region.wanted o (yielded ops a.tmps) = true then Oper.wp Try.prog o a w K Q else E := by
  have hw : Region.wanted o (yielded ops a.tmps) = true := by simp [Region.wanted, hgd]
  rw [if_pos hw]
  obtain ⟨v', w', hr, h2, h3⟩ := run_append_rsi h xs hx hxs ad n c hn hc hl hb o.type
  unfold Oper.wp execOp
  simp only [ho, resolve, invoke, builtin, Sem.run_bind, Sem.run_pure, Result.andThen_ok, List.map_toArray, List.map_cons, List.map_nil, hs, hv, hr]
  exact hK v' w' h2 h3
theorem RsI.lt {base : Nat} (h : RsI w base v rows) : ∀ k, v.ownBlock = some k → base ≤ k ∧ k < w.heap.size := by
  obtain ⟨vs, a, _⟩ := h
  exact a.lt
theorem RsI.alloc {base : Nat} (h : RsI w base v rows) (o : Obj) : RsI (w.alloc o) base v rows := h.below ((Below.refl _ _).alloc (Nat.le_refl _) _)
/-- No rows, in a block of one's own. -/
theorem RsI.empty (w : World) : RsI (w.alloc (.cells #[] 53)) w.heap.size (.slice (some ⟨w.heap.size, 0, none⟩) 0 0) [] :=
  ⟨[], ⟨rfl, .inr ⟨_, 0, #[], rfl, Nat.le_refl _, Blk.new w _ _, Nat.le_refl _, by simp [maxLen], rfl, rfl⟩⟩, rfl, fun _ _ _ h => by simp at h⟩
/-- One row, laid for append. -/
theorem one_news {a1 : Option Addr} {n1 c1 : Nat} {ad : Addr} (hr : LI w (.slice a1 n1 c1) r) (hc : w.cell? (ad.add 0) = some (.slice a1 n1 c1)) : (∀ (j : Nat) (u : Value) (r' : List Nat), [Value.slice a1 n1 c1][j]? = some u → [r][j]? = some r' → LI w u r') ∧ ∀ (j : Nat) (u : Value), [Value.slice a1 n1 c1][j]? = some u → w.cell? (ad.add j) = some u := by
  refine ⟨fun j u r' h1 h2 => ?_, fun j u h1 => ?_⟩
  · cases j with
    | zero => simp at h1 h2; subst h1 h2; exact hr
    | succ j => simp at h1
  · cases j with
    | zero => simp at h1; subst h1; exact hc
    | succ j => simp at h1
theorem two_news {a1 a2 : Option Addr} {n1 c1 n2 c2 : Nat} {ad : Addr} {r2 : List Nat} (hr : LI w (.slice a1 n1 c1) r) (hr2 : LI w (.slice a2 n2 c2) r2) (hc : w.cell? (ad.add 0) = some (.slice a1 n1 c1)) (hc2 : w.cell? (ad.add 1) = some (.slice a2 n2 c2)) : (∀ (j : Nat) (u : Value) (r' : List Nat), [Value.slice a1 n1 c1, .slice a2 n2 c2][j]? = some u → [r, r2][j]? = some r' → LI w u r') ∧ ∀ (j : Nat) (u : Value), [Value.slice a1 n1 c1, .slice a2 n2 c2][j]? = some u → w.cell? (ad.add j) = some u := by
  refine ⟨fun j u r' h1 h2 => ?_, fun j u h1 => ?_⟩
  · match j, h1, h2 with
    | 0, h1, h2 => simp at h1 h2; subst h1 h2; exact hr
    | 1, h1, h2 => simp at h1 h2; subst h1 h2; exact hr2
    | j + 2, h1, _ => simp at h1
  · match j, h1 with
    | 0, h1 => simp at h1; subst h1; exact hc
    | 1, h1 => simp at h1; subst h1; exact hc2
    | j + 2, h1 => simp at h1
end

end Go.Proofs.Ytahabfjngeicmaa
