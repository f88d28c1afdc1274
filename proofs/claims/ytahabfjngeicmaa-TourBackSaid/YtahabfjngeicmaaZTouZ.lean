/- The law's begun: its states. -/
import Derived.Test.YtahabfjngeicmaaZTouT
import Derived.Test.YtahabfjngeicmaaZTouV
import Derived.Test.YtahabfjngeicmaaZF
namespace Go.Proofs.Ytahabfjngeicmaa
open Go.RowKit

set_option maxRecDepth 100000

/-- A level's rows at the beginning. -/
def rows0 (V : Int) (L n : Nat) : List (List Nat) := (List.range n).map fun v => [Xn V L v]
/-- A level's edges at the beginning. -/
def gr0 (S : Int) : List (Option (Nat × Nat)) := List.replicate S.toNat none
section
variable {V S T : Int} {L s u : Nat}
theorem sing_in {k x : Nat} (h1 : 1 ≤ x) (h2 : x ≤ k) : sgl x ∈ sing k := by
  unfold sing
  exact List.mem_map.2 ⟨x, List.mem_range'.2 ⟨x - 1, by omega, by omega⟩, rfl⟩
theorem rows0_flat (V : Int) (L n : Nat) : (rows0 V L n).flatten = (List.range n).map (Xn V L) := by
  unfold rows0
  induction List.range n with
  | nil => rfl
  | cons x l ih => simp only [List.map_cons, List.flatten_cons, ih]; rfl
theorem rows0_at {n : Nat} (h : u < n) : (rows0 V L n)[u]? = some [Xn V L u] := by
  unfold rows0
  rw [List.getElem?_map, List.getElem?_range h]; rfl
/-- All of a level at the beginning. -/
theorem Lv.zero (hR : Rt V S T) (hL : (L : Int) < lv V) : Lv V S L (sing (nN V S)) (rows0 V L V.toNat) (gr0 S) := by
  refine ⟨⟨(List.range V.toNat).map fun v => ([Xn V L v], []), by simp [rows0, Function.comp_def], fun p hp => ?_, fun s a b => ?_⟩, fun r hr => ?_, ?_, fun u hu => ?_, fun s hs hg d hd => ?_, by simp [gr0]⟩
  · obtain ⟨v, _, rfl⟩ := List.mem_map.1 hp
    exact .one v
  · constructor
    · intro h
      obtain ⟨p, hp, hm⟩ := List.mem_flatMap.1 h
      obtain ⟨v, _, rfl⟩ := List.mem_map.1 hp
      simp at hm
    · intro h
      unfold gr0 at h
      rw [List.getElem?_replicate] at h
      split at h
      · cases h
      · cases h
  · obtain ⟨v, hv, rfl⟩ := List.mem_map.1 hr
    have hv' := List.mem_range.1 hv
    have hvI : (v : Int) < V := by omega
    have := vxI_in hR hL hvI
    exact ⟨sgl (Xn V L v), by rw [Xn_in hvI]; exact sing_in this.1 this.2.1, rfl⟩
  · rw [rows0_flat]
    have hn : (List.range V.toNat).Nodup := List.nodup_range
    unfold List.Nodup at hn ⊢
    rw [List.pairwise_map]
    exact hn.imp fun hne e => hne (Xn_inj hR hL _ _ e)
  · exact ⟨[Xn V L u], List.mem_of_getElem? (rows0_at (u := u) (by omega)), by simp⟩
  · have := arI_in hR hL hs hd
    exact ⟨sgl (An V S L s d), by rw [An_in hs hd]; exact sing_in this.1 this.2.1, rfl⟩
end

/-- begun's memory, ahead of the trees' variable. -/
structure B0N (w0 W : World) (zb l3 : Nat) (V S T : Int) (p gb m : Nat) (g : Mg9) (vc : Array Value) : Prop where
  z : Blk W zb 27 vc
  l : Blk W l3 23 #[.int .i64 V, .int .i64 S, .int .i64 T]
  tm : TM W V S T p gb (cellsN V S T) m g
  be : Below w0.heap.size w0 W
  kp : w0.heap.size ≤ p
  kg : w0.heap.size ≤ gb
/-- .. and behind it. -/
structure BN (w0 W : World) (zb l3 tb : Nat) (V S T : Int) (p gb m : Nat) (g : Mg9) (vc : Array Value) : Prop where
  b : B0N w0 W zb l3 V S T p gb m g vc
  t : Blk W tb 44 #[.int .i64 V, .int .i64 S, .int .i64 T, .iface 95 (pmV p), .int .i64 1, .int .i64 0]
section
variable {w w' W w0 : World} {V S T : Int} {zb l3 tb p gb m m' : Nat} {g g' : Mg9} {vc : Array Value}
theorem B0N.below (h : B0N w0 w zb l3 V S T p gb m g vc) (hb : Below w.heap.size w w') : B0N w0 w' zb l3 V S T p gb m g vc := ⟨h.z.below hb h.z.lt, h.l.below hb h.l.lt, h.tm.below hb, h.be.trans (hb.mono h.be.size), h.kp, h.kg⟩
theorem B0N.drew (h : B0N w0 w zb l3 V S T p gb m g vc) : B0N w0 w.drew zb l3 V S T p gb m g vc := h.below (Below.refl _ _).drew
theorem B0N.alloc (h : B0N w0 w zb l3 V S T p gb m g vc) (o : Obj) : B0N w0 (w.alloc o) zb l3 V S T p gb m g vc := h.below ((Below.refl _ _).alloc (Nat.le_refl _) _)
theorem B0N.made (h : B0N w0 w zb l3 V S T p gb m g vc) : BN w0 (w.alloc (.cells #[.int .i64 V, .int .i64 S, .int .i64 T, .iface 95 (pmV p), .int .i64 1, .int .i64 0] 44)) zb l3 w.heap.size V S T p gb m g vc := ⟨h.alloc _, Blk.new _ _ _⟩
theorem B0N.set1 {cs : Array Value} (h : B0N w0 w zb l3 V S T p gb m g vc) (hq : Blk w tb 44 cs) (hb : w0.heap.size ≤ tb) (i : Nat) (u : Value) : B0N w0 (w.setCell ⟨tb, i, none⟩ u) zb l3 V S T p gb m g vc :=
  ⟨Kp.set hq (by decide) i u _ _ h.z, Kp.set hq (by decide) i u _ _ h.l, h.tm.far hq (by decide) (by decide) u, h.be.setCell hb u, h.kp, h.kg⟩
theorem B0N.store {c0 c1 c2 c3 c4 c5 : Value} (h : B0N w0 w zb l3 V S T p gb m g vc) (hq : Blk w tb 44 #[c0, c1, c2, c3, c4, c5]) (hb : w0.heap.size ≤ tb) : BN w0 ((((((w.setCell ⟨tb, 0, none⟩ (.int .i64 V)).setCell ⟨tb, 1, none⟩ (.int .i64 S)).setCell ⟨tb, 2, none⟩ (.int .i64 T)).setCell ⟨tb, 3, none⟩ (.iface 95 (pmV p))).setCell ⟨tb, 4, none⟩ (.int .i64 1)).setCell ⟨tb, 5, none⟩ (.int .i64 0)) zb l3 tb V S T p gb m g vc := by
  have k0 := hq.set_ 0 (.int .i64 V)
  have k1 := k0.set_ 1 (.int .i64 S)
  have k2 := k1.set_ 2 (.int .i64 T)
  have k3 := k2.set_ 3 (.iface 95 (pmV p))
  have k4 := k3.set_ 4 (.int .i64 1)
  have k5 := k4.set_ 5 (.int .i64 0)
  have h0 := h.set1 hq hb 0 (.int .i64 V)
  have h1 := h0.set1 k0 hb 1 (.int .i64 S)
  have h2 := h1.set1 k1 hb 2 (.int .i64 T)
  have h3 := h2.set1 k2 hb 3 (.iface 95 (pmV p))
  have h4 := h3.set1 k3 hb 4 (.int .i64 1)
  exact ⟨h4.set1 k4 hb 5 (.int .i64 0), k5⟩
theorem BN.below (h : BN w0 w zb l3 tb V S T p gb m g vc) (hb : Below w.heap.size w w') : BN w0 w' zb l3 tb V S T p gb m g vc := ⟨h.b.below hb, h.t.below hb h.t.lt⟩
theorem BN.drew (h : BN w0 w zb l3 tb V S T p gb m g vc) : BN w0 w.drew zb l3 tb V S T p gb m g vc := h.below (Below.refl _ _).drew
theorem BN.only (h : BN w0 w zb l3 tb V S T p gb m g vc) (A : TM w' V S T p gb (cellsN V S T) m' g') (ho : Only p gb w w') : BN w0 w' zb l3 tb V S T p gb m' g' vc :=
  ⟨⟨h.b.z.treap h.b.tm ho (by decide) (by decide), h.b.l.treap h.b.tm ho (by decide) (by decide), A, Only.below h.b.be ho h.b.be.size h.b.kp h.b.kg, h.b.kp, h.b.kg⟩, h.t.treap h.b.tm ho (by decide) (by decide)⟩
theorem BN.more (h : BN w0 w zb l3 tb V S T p gb m g vc) (hm : m ≤ m') : BN w0 w zb l3 tb V S T p gb m' g vc := ⟨⟨h.b.z, h.b.l, h.b.tm.more hm, h.b.be, h.b.kp, h.b.kg⟩, h.t⟩
/-- Between two nodes. -/
def NRel (w0 : World) (zb l3 tb : Nat) (V S T : Int) (p gb : Nat) (vc : Array Value) (i : Value) (W : World) : Prop :=
  ∃ x g, 1 ≤ x ∧ x ≤ nN V S + 1 ∧ i = .int .i64 ((x : Nat) : Int) ∧ BN w0 W zb l3 tb V S T p gb (10 * (x - 1)) g vc ∧ ∀ y, 1 ≤ y → y < x → Stands (vxN V) (fun _ => 0) g (sgl y)

/-- What a value of one's own is, lies in blocks of one type. -/
theorem own_ne {E : TypeId} {base n i : Nat} {v : Value} {xs : List Value} {ty : TypeId} {cs : Array Value} (h : w.ownsRow base E 1 v n xs) (hz : Blk w i ty cs) (hne : E ≠ ty) : v.ownBlock ≠ some i := by
  intro e
  rcases h.2 with ⟨rfl, _⟩ | ⟨g, cap, cur, rfl, _, hg, _⟩
  · cases e
  · have : g = i := by injection e
    subst this
    exact Blk.ne_ (show Blk w g E cur from hg) hz hne rfl
theorem Kp.own {E : TypeId} {base n : Nat} {v : Value} {xs : List Value} {ty : TypeId} (h : w.ownsRow base E 1 v n xs) (hg : w.grownBy w' v.ownBlock) (hne : E ≠ ty) : Kp ty w w' := fun _ _ hz => hz.grown hg (own_ne h hz hne)
theorem own_kp {E : TypeId} {base n : Nat} {v : Value} {xs : List Value} (h : w.ownsRow base E 1 v n xs) (hk : Kp E w w') : w'.ownsRow base E 1 v n xs := by
  refine ⟨h.1, ?_⟩
  rcases h.2 with hn | ⟨g, cap, cur, e, hb, hg, rest⟩
  · exact .inl hn
  · exact .inr ⟨g, cap, cur, e, hb, hk g cur hg, rest⟩
theorem own_lt {E : TypeId} {base n : Nat} {v : Value} {xs : List Value} (h : w.ownsRow base E 1 v n xs) : ∀ r, v.ownBlock = some r → base ≤ r ∧ r < w.heap.size := World.ownsRow.lt h
theorem own_slice {E : TypeId} {base n : Nat} {v : Value} {xs : List Value} (h : w.ownsRow base E 1 v n xs) : ∃ a c, v = .slice a n c := by
  rcases h.2 with ⟨rfl, rfl⟩ | ⟨g, cap, cur, rfl, _⟩
  · exact ⟨_, _, rfl⟩
  · exact ⟨_, _, rfl⟩

/-- begun's memory, in the midst of the levels. -/
structure CBg (w0 W : World) (l3 q : Nat) (V S T : Int) (p gb m : Nat) (g : Mg9) (qa qb va vb : Value) (xa xb : List Value) (i : Nat) (vr : Nat → Value) (gB : Nat → Nat) : Prop where
  hl : Blk W l3 23 #[.int .i64 V, .int .i64 S, .int .i64 T]
  hq : Blk W q 50 #[.int .i64 V, .int .i64 S, .int .i64 T, .int .i64 V, .int .i64 S, .int .i64 T, .iface 95 (pmV p), .int .i64 1, .int .i64 0, qa, qb]
  fm : FM W V S T p gb (cellsN V S T) m g (sing (nN V S))
  ra : W.ownsRow w0.heap.size 100 1 va xa.length xa
  rb : W.ownsRow w0.heap.size 38 1 vb xb.length xb
  rs : ∀ L, L < i → RsI W w0.heap.size (vr L) (rows0 V L V.toNat)
  gs : ∀ L, L < i → ∃ zs, Blk W (gB L) 36 zs ∧ ∀ k, k < S.toNat → zs[k * 2]? = some (.int .i64 (-1)) ∧ zs[k * 2 + 1]? = some (.int .i64 (-1))
  gd : ∀ L L', L < i → L' < i → gB L = gB L' → L = L'
  bB : ∀ L, L < i → w0.heap.size ≤ gB L
  be : Below w0.heap.size w0 W
  bq : w0.heap.size ≤ q
  kp : w0.heap.size ≤ p
  kg : w0.heap.size ≤ gb
end
section
variable {w w' W w0 : World} {V S T : Int} {zb l3 tb p gb m m' : Nat} {g g' : Mg9} {vc : Array Value} {q i : Nat} {qa qb va vb va' vb' : Value} {xa xb xa' xb' : List Value} {vr : Nat → Value} {gB : Nat → Nat}
theorem CBg.kept (h : CBg w0 w l3 q V S T p gb m g qa qb va vb xa xb i vr gB) (hk : ∀ ty, ty = 23 ∨ ty = 50 ∨ ty = 53 ∨ ty = 3 ∨ ty = 36 → Kp ty w w') (hf : FM w' V S T p gb (cellsN V S T) m g (sing (nN V S))) (ha : w'.ownsRow w0.heap.size 100 1 va' xa'.length xa') (hb : w'.ownsRow w0.heap.size 38 1 vb' xb'.length xb') (he : Below w0.heap.size w0 w') : CBg w0 w' l3 q V S T p gb m g qa qb va' vb' xa' xb' i vr gB := by
  refine ⟨hk _ (by simp) _ _ h.hl, hk _ (by simp) _ _ h.hq, hf, ha, hb, fun L hL => (h.rs L hL).kp (hk _ (by simp)) (hk _ (by simp)), fun L hL => ?_, h.gd, h.bB, he, h.bq, h.kp, h.kg⟩
  obtain ⟨zs, hz, hc⟩ := h.gs L hL
  exact ⟨zs, hk _ (by simp) _ _ hz, hc⟩
theorem CBg.below (h : CBg w0 w l3 q V S T p gb m g qa qb va vb xa xb i vr gB) (hb : Below w.heap.size w w') : CBg w0 w' l3 q V S T p gb m g qa qb va vb xa xb i vr gB :=
  h.kept (fun _ _ => .below hb) (h.fm.below hb) (own_kp h.ra (.below hb)) (own_kp h.rb (.below hb)) (h.be.trans (hb.mono h.be.size))
theorem CBg.drew (h : CBg w0 w l3 q V S T p gb m g qa qb va vb xa xb i vr gB) : CBg w0 w.drew l3 q V S T p gb m g qa qb va vb xa xb i vr gB := h.below (Below.refl _ _).drew
theorem CBg.alloc (h : CBg w0 w l3 q V S T p gb m g qa qb va vb xa xb i vr gB) (o : Obj) : CBg w0 (w.alloc o) l3 q V S T p gb m g qa qb va vb xa xb i vr gB := h.below ((Below.refl _ _).alloc (Nat.le_refl _) _)
theorem FM.grown {r : Option Nat} {ts : List Tp} {cap : Nat} (h : FM w V S T p gb cap m g ts) (hg : w.grownBy w' r) (hn : ∀ i ty cs, Blk w i ty cs → ty = 119 ∨ ty = 98 → r ≠ some i) : FM w' V S T p gb cap m g ts := by
  obtain ⟨⟨_, b1⟩, ⟨_, b2⟩⟩ := h.tm.blk
  exact ⟨h.tm.grown hg (hn _ _ _ b1 (by simp)) (hn _ _ _ b2 (by simp)), h.fi⟩
theorem CBg.appA (h : CBg w0 w l3 q V S T p gb m g qa qb va vb xa xb i vr gB) (hg : w.grownBy w' va.ownBlock) (ha : w'.ownsRow w0.heap.size 100 1 va' xa'.length xa') : CBg w0 w' l3 q V S T p gb m g qa qb va' vb xa' xb i vr gB :=
  h.kept (fun ty hty => Kp.own h.ra hg (by rcases hty with rfl | rfl | rfl | rfl | rfl <;> decide)) (h.fm.grown hg fun i ty cs hz hty => own_ne h.ra hz (by rcases hty with rfl | rfl <;> decide)) ha (own_kp h.rb (Kp.own h.ra hg (by decide))) (h.be.grown hg h.be.size fun r hr => (own_lt h.ra r hr).1)
theorem CBg.appB (h : CBg w0 w l3 q V S T p gb m g qa qb va vb xa xb i vr gB) (hg : w.grownBy w' vb.ownBlock) (hb : w'.ownsRow w0.heap.size 38 1 vb' xb'.length xb') : CBg w0 w' l3 q V S T p gb m g qa qb va vb' xa xb' i vr gB :=
  h.kept (fun ty hty => Kp.own h.rb hg (by rcases hty with rfl | rfl | rfl | rfl | rfl <;> decide)) (h.fm.grown hg fun i ty cs hz hty => own_ne h.rb hz (by rcases hty with rfl | rfl <;> decide)) (own_kp h.ra (Kp.own h.rb hg (by decide))) hb (h.be.grown hg h.be.size fun r hr => (own_lt h.rb r hr).1)
theorem CBg.setA (h : CBg w0 w l3 q V S T p gb m g qa qb va vb xa xb i vr gB) (v : Value) : CBg w0 (w.setCell ⟨q, 9, none⟩ v) l3 q V S T p gb m g v qb va vb xa xb i vr gB := by
  have kp : ∀ {ty}, ty ≠ 50 → Kp ty w (w.setCell ⟨q, 9, none⟩ v) := fun hne => .set h.hq hne 9 v
  refine ⟨kp (by decide) _ _ h.hl, h.hq.set_ 9 v, ⟨h.fm.tm.far h.hq (by decide) (by decide) v, h.fm.fi⟩, own_kp h.ra (kp (by decide)), own_kp h.rb (kp (by decide)), fun L hL => (h.rs L hL).kp (kp (by decide)) (kp (by decide)), fun L hL => ?_, h.gd, h.bB, h.be.setCell h.bq v, h.bq, h.kp, h.kg⟩
  obtain ⟨zs, hz, hc⟩ := h.gs L hL
  exact ⟨zs, kp (by decide) _ _ hz, hc⟩
theorem CBg.setB (h : CBg w0 w l3 q V S T p gb m g qa qb va vb xa xb i vr gB) (v : Value) : CBg w0 (w.setCell ⟨q, 10, none⟩ v) l3 q V S T p gb m g qa v va vb xa xb i vr gB := by
  have kp : ∀ {ty}, ty ≠ 50 → Kp ty w (w.setCell ⟨q, 10, none⟩ v) := fun hne => .set h.hq hne 10 v
  refine ⟨kp (by decide) _ _ h.hl, h.hq.set_ 10 v, ⟨h.fm.tm.far h.hq (by decide) (by decide) v, h.fm.fi⟩, own_kp h.ra (kp (by decide)), own_kp h.rb (kp (by decide)), fun L hL => (h.rs L hL).kp (kp (by decide)) (kp (by decide)), fun L hL => ?_, h.gd, h.bB, h.be.setCell h.bq v, h.bq, h.kp, h.kg⟩
  obtain ⟨zs, hz, hc⟩ := h.gs L hL
  exact ⟨zs, kp (by decide) _ _ hz, hc⟩
/-- One level more is laid. -/
theorem CBg.ext {v : Value} {b : Nat} {zs : Array Value} (h : CBg w0 w l3 q V S T p gb m g qa qb va vb xa xb i vr gB) (hv : RsI w w0.heap.size v (rows0 V i V.toNat)) (hz : Blk w b 36 zs) (hc : ∀ k, k < S.toNat → zs[k * 2]? = some (.int .i64 (-1)) ∧ zs[k * 2 + 1]? = some (.int .i64 (-1))) (hn : ∀ L, L < i → gB L ≠ b) (hb : w0.heap.size ≤ b) : CBg w0 w l3 q V S T p gb m g qa qb va vb xa xb (i + 1) (fun L => if L = i then v else vr L) (fun L => if L = i then b else gB L) := by
  refine ⟨h.hl, h.hq, h.fm, h.ra, h.rb, fun L hL => ?_, fun L hL => ?_, fun L L' hL hL' e => ?_, fun L hL => ?_, h.be, h.bq, h.kp, h.kg⟩
  · show RsI w _ (if L = i then v else vr L) _
    by_cases e : L = i
    · subst e; rw [if_pos rfl]; exact hv
    · rw [if_neg e]; exact h.rs L (by omega)
  · show ∃ zs, Blk w (if L = i then b else gB L) _ zs ∧ _
    by_cases e : L = i
    · subst e; rw [if_pos rfl]; exact ⟨zs, hz, hc⟩
    · rw [if_neg e]; exact h.gs L (by omega)
  · have e' : (if L = i then b else gB L) = (if L' = i then b else gB L') := e
    by_cases e1 : L = i
    · by_cases e2 : L' = i
      · omega
      · rw [if_pos e1, if_neg e2] at e'; exact absurd e'.symm (hn L' (by omega))
    · by_cases e2 : L' = i
      · rw [if_neg e1, if_pos e2] at e'; exact absurd e' (hn L (by omega))
      · rw [if_neg e1, if_neg e2] at e'; exact h.gd L L' (by omega) (by omega) e'
  · show w0.heap.size ≤ (if L = i then b else gB L)
    by_cases e : L = i
    · rw [if_pos e]; exact hb
    · rw [if_neg e]; exact h.bB L (by omega)
/-- A graph's slice. -/
def gsl (S : Int) (b : Nat) : Value := .slice (some ⟨b, 0, none⟩) S.toNat S.toNat
theorem range_snoc {α : Type} (f : Nat → α) (i : Nat) (x : α) : (List.range i).map f ++ [x] = (List.range (i + 1)).map (fun L => if L = i then x else f L) := by
  rw [List.range_succ, List.map_append]
  congr 1
  · refine List.map_congr_left fun y hy => ?_
    have := List.mem_range.1 hy
    rw [if_neg (by omega)]
  · simp
/-- A play, made. -/
theorem CBg.fin (h : CBg w0 w l3 q V S T p gb m g va vb va vb ((List.range i).map vr) ((List.range i).map fun L => gsl S (gB L)) i vr gB) (hR : Rt V S T) (hi : (i : Int) = lv V) (v8 : V ≤ 8) (s8 : S ≤ 8) : ∃ rb lb cr cl, PL w V S T i q p gb (cellsN V S T) rb lb cr cl w0.heap.size gB m g (sing (nN V S)) vr (fun L => rows0 V L V.toNat) (fun _ => gr0 S) := by
  have l1 : 1 ≤ lv V := by unfold Go.Proofs.Ytahabfjngeicmaa.lv; split <;> (try split) <;> (try split) <;> (try split) <;> omega
  have ra := h.ra
  have rb := h.rb
  rw [List.length_map, List.length_range] at ra rb
  rcases ra.2 with ⟨_, h0⟩ | ⟨rb1, cr, cur1, e1, b1, g1, n1, m1, s1, t1⟩
  · omega
  rcases rb.2 with ⟨_, h0⟩ | ⟨lb1, cl, cur2, e2, b2, g2, n2, m2, s2, t2⟩
  · omega
  have hq := h.hq
  rw [e1, e2] at hq
  rw [Nat.mul_one] at t1 t2
  have at1 : ∀ {cur : Array Value} {f : Nat → Value} {L : Nat}, cur.toList.take i = (List.range i).map f → L < i → cur[L]? = some (f L) := by
    intro cur f L ht hL
    have h1 : (cur.toList.take i)[L]? = some (f L) := by rw [ht, List.getElem?_map, List.getElem?_range hL]; rfl
    rw [List.getElem?_take_of_lt hL] at h1
    simpa using h1
  refine ⟨rb1, lb1, cr, cl, ⟨hq, h.fm, ⟨cur1, g1, fun L hL => at1 t1 hL⟩, ⟨cur2, g2, fun L hL => at1 (f := fun L => gsl S (gB L)) t2 hL⟩, h.rs, fun L hL => ⟨by simp [gr0], ?_⟩, h.gd, hi, h.bq, h.kp, h.kg, b1, b2, h.bB⟩, fun L hL => Lv.zero hR (by omega), v8, s8⟩
  obtain ⟨zs, hz, hc⟩ := h.gs L hL
  refine ⟨zs, hz, fun k e he => ?_⟩
  unfold gr0 at he
  rw [List.getElem?_replicate] at he
  split at he
  · injection he with he
    subst he
    rename_i hk
    exact hc k hk
  · cases he
theorem CBg.new (h : BN w0 w zb l3 tb V S T p gb m g vc) (hF : FI V S g (fun _ => 0) (sing (nN V S))) : CBg w0 (w.alloc (.cells #[.int .i64 V, .int .i64 S, .int .i64 T, .int .i64 V, .int .i64 S, .int .i64 T, .iface 95 (pmV p), .int .i64 1, .int .i64 0, .slice none 0 0, .slice none 0 0] 50)) l3 w.heap.size V S T p gb m g (.slice none 0 0) (.slice none 0 0) (.slice none 0 0) (.slice none 0 0) [] [] 0 (fun _ => .slice none 0 0) (fun _ => 0) := by
  have h1 := h.b.alloc (.cells #[.int .i64 V, .int .i64 S, .int .i64 T, .int .i64 V, .int .i64 S, .int .i64 T, .iface 95 (pmV p), .int .i64 1, .int .i64 0, .slice none 0 0, .slice none 0 0] 50)
  exact ⟨h1.l, Blk.new _ _ _, ⟨h1.tm, hF⟩, World.ownsRow_nil _ _ _ _, World.ownsRow_nil _ _ _ _, fun L hL => absurd hL (Nat.not_lt_zero _), fun L hL => absurd hL (Nat.not_lt_zero _), fun L L' hL => absurd hL (Nat.not_lt_zero _), fun L hL => absurd hL (Nat.not_lt_zero _), h1.be, h.b.be.size, h.b.kp, h.b.kg⟩
/-- Between two levels. -/
def LRel (w0 : World) (l3 q : Nat) (V S T : Int) (p gb m : Nat) (g : Mg9) (j : Value) (W : World) : Prop :=
  ∃ i va vb vr gB, i ≤ (lv V).toNat ∧ j = .int .i64 ((i : Nat) : Int) ∧ CBg w0 W l3 q V S T p gb m g va vb va vb ((List.range i).map vr) ((List.range i).map fun L => gsl S (gB L)) i vr gB
/-- Between two rows of a level. -/
def VRel (w1 : World) (V : Int) (i n : Nat) (v j : Value) (W : World) : Prop :=
  ∃ k, k ≤ n ∧ j = .int .i64 ((k : Nat) : Int) ∧ Below w1.heap.size w1 W ∧ RsI W w1.heap.size v (rows0 V i k)
/-- Between two edges of a level. -/
def SRel (w1 : World) (V : Int) (i : Nat) (v : Value) (b n : Nat) (j : Value) (W : World) : Prop :=
  ∃ k, k ≤ n ∧ j = .int .i64 ((k : Nat) : Int) ∧ Below w1.heap.size w1 W ∧ RsI W w1.heap.size v (rows0 V i V.toNat) ∧ w1.heap.size ≤ b ∧ ∃ zs, Blk W b 36 zs ∧ zs.size = n * 2 ∧ ∀ y, y < k → zs[y * 2]? = some (.int .i64 (-1)) ∧ zs[y * 2 + 1]? = some (.int .i64 (-1))
theorem RsI.nil (w : World) (base : Nat) : RsI w base (.slice none 0 0) [] := ⟨[], RowV.nil w base, rfl, fun _ _ _ h => by simp at h⟩
theorem rows0_succ (V : Int) (L k : Nat) : rows0 V L (k + 1) = rows0 V L k ++ [[Xn V L k]] := by unfold rows0; rw [List.range_succ, List.map_append]; rfl
theorem rows0_len (V : Int) (L k : Nat) : (rows0 V L k).length = k := by simp [rows0]
/-- An edge more is laid. -/
theorem SRel.next {w1 : World} {i k b n : Nat} {v : Value} {zs : Array Value} (hk : k < n) (hb : Below w1.heap.size w1 w) (hv : RsI w w1.heap.size v (rows0 V i V.toNat)) (h1 : w1.heap.size ≤ b) (hz : Blk w b 36 zs) (hs : zs.size = n * 2) (hc : ∀ y, y < k → zs[y * 2]? = some (.int .i64 (-1)) ∧ zs[y * 2 + 1]? = some (.int .i64 (-1))) :
    SRel w1 V i v b n (.int .i64 ((k : Int) + 1)) ((w.setCell ⟨b, k * 2, none⟩ (.int .i64 (-1))).setCell ⟨b, k * 2 + 1, none⟩ (.int .i64 (-1))) := by
  have z1 := hz.set_ (k * 2) (.int .i64 (-1))
  have z2 := z1.set_ (k * 2 + 1) (.int .i64 (-1))
  have kp : ∀ {ty}, ty ≠ 36 → Kp ty w ((w.setCell ⟨b, k * 2, none⟩ (.int .i64 (-1))).setCell ⟨b, k * 2 + 1, none⟩ (.int .i64 (-1))) := fun hne i cs hb => Kp.set z1 hne _ _ i cs (Kp.set hz hne _ _ i cs hb)
  refine ⟨k + 1, hk, by simp, (hb.setCell h1 _).setCell h1 _, hv.kp (kp (by decide)) (kp (by decide)), h1, _, z2, by rw [Array.size_setIfInBounds, Array.size_setIfInBounds]; exact hs, fun y hy => ?_⟩
  by_cases e : y = k
  · subst e
    constructor
    · rw [Array.getElem?_setIfInBounds_ne (by omega), Array.getElem?_setIfInBounds_self_of_lt (by omega)]
    · rw [Array.getElem?_setIfInBounds_self_of_lt (by rw [Array.size_setIfInBounds]; omega)]
  · obtain ⟨q1, q2⟩ := hc y (by omega)
    constructor
    · rw [Array.getElem?_setIfInBounds_ne (by omega), Array.getElem?_setIfInBounds_ne (by omega)]; exact q1
    · rw [Array.getElem?_setIfInBounds_ne (by omega), Array.getElem?_setIfInBounds_ne (by omega)]; exact q2
/-- What begun leaves. -/
def BgD10 (V S T : Int) (w : World) (e : Ending) (w' : World) : Prop :=
  ∃ n q p gb rb lb cr cl gB g vr, e = .returned (.pointer (some ⟨q, 0, none⟩)) ∧ PL w' V S T n q p gb (cellsN V S T) rb lb cr cl w.heap.size gB (10 * nN V S) g (sing (nN V S)) vr (fun L => rows0 V L V.toNat) (fun _ => gr0 S) ∧ Below w.heap.size w w'
theorem info_lll : (Try.prog.info? 100).map (fun i => (i.zero, i.size, i.bytes)) = some (some (.slice none 0 0), 1, 24) := by kernel_rfl
theorem info_gr : (Try.prog.info? 38).map (fun i => (i.zero, i.size, i.bytes)) = some (some (.slice none 0 0), 1, 24) := by kernel_rfl
theorem info_2 : (Try.prog.info? 36).map (fun i => (i.zero, i.size, i.bytes)) = some (some (.agg #[.int .i64 0, .int .i64 0]), 2, 16) := by kernel_rfl
theorem made_g (n : Nat) (hn : n ≤ 100000) (w : World) : (Instr.makeSlice 38 (.int .i64 (n : Int)) (.int .i64 (n : Int))).run Try.prog w = .ok (.slice (some ⟨w.heap.size, 0, none⟩) n n) (w.alloc (.cells (madeCells #[.int .i64 0, .int .i64 0] (n * 2)) 36)) := by
  obtain ⟨i0, hi0, hz0, hz1, hz2⟩ := info_parts info_2
  have h := run_make (P := Try.prog) w 38 36 i0 (.agg #[.int .i64 0, .int .i64 0]) Try.underlying38 hi0 hz0 .i64 .i64 (n : Int) (n : Int) (by omega) (Int.le_refl _) (by rw [hz2]; omega) (by omega)
  rw [Int.toNat_natCast, hz1] at h
  exact h
theorem step_append_own1 {T9 E9 : TypeId} (hT : Try.prog.underlying T9 = some (.slice E9)) (hE : (Try.prog.info? E9).map (fun i => (i.zero, i.size, i.bytes)) = some (some (.slice none 0 0), 1, 24))
    {ops : Array Oper} {o : Oper} {a : Act} {K : Act → World → Prop} {Q : Exit → Act → World → Prop} {F : Prop} (hgd : o.guard = none) (s x : Operand)
    (ho : o.op = .call { callee := .builtin .append, args := #[s, x], argTypes := #[T9, T9] })
    {base : Nat} {v : Value} {xs : List Value} (hs : a.eval s = v) (h : w.ownsRow base E9 1 v xs.length xs) (u : Value) (hu : u.oneCell' = true) (ad : Addr) (c : Nat) (hx : a.eval x = .slice (some ad) 1 c) (hc : w.cell? (ad.add 0) = some u) (hl : xs.length ≤ 1000) (hb : base ≤ w.heap.size)
    (hK : ∀ v' w', w'.ownsRow base E9 1 v' (xs ++ [u]).length (xs ++ [u]) → w.grownBy w' v.ownBlock → K (a.put o.dst v') w') :
    if Region.wanted o (yielded ops a.tmps) = true then Oper.wp Try.prog o a w K Q else F := by
  obtain ⟨i0, hi0, hz0, hz1, hz2⟩ := info_parts hE
  refine step_append_lies w hgd s x T9 ho base E9 i0 _ 1 24 hT hi0 hz0 hz1 hz2 rfl (by omega) v xs.length xs hs h ad 1 c [u] hx rfl ?_ ?_ (by omega) (by simp only [maxLen]; omega) (by omega) hb w.heap.size rfl ?_
  · intro j u' hj
    match j, hj with
    | 0, hj => simp at hj; subst hj; exact hc
    | j + 1, hj => simp at hj
  · intro u' hu'; simp at hu'; subst hu'; exact hu
  · intro g cap w' h1 h2 _ _
    refine hK _ w' ?_ h2
    rw [List.length_append, List.length_singleton]; exact h1
theorem wpList_append_rsi {ops : Array Oper} {rest : List Oper} {o : Oper} {a : Act} {Q : Exit → Act → World → Prop} (hgd : o.guard = none) (s x : Operand)
    (ho : o.op = .call { callee := .builtin .append, args := #[s, x], argTypes := #[100, 100] })
    {base : Nat} {v : Value} {rows : List (List Nat)} {r : List Nat} {a1 : Option Addr} {n1 c1 : Nat} (hs : a.eval s = v) (h : RsI w base v rows) (hr : LI w (.slice a1 n1 c1) r) (ad : Addr) (c : Nat) (hv : a.eval x = .slice (some ad) 1 c) (hc : w.cell? (ad.add 0) = some (.slice a1 n1 c1)) (hl : rows.length ≤ 1000) (hb : base ≤ w.heap.size)
    (hK : ∀ v' w', RsI w' base v' (rows ++ [r]) → w.grownBy w' v.ownBlock → wpList Try.prog ops Q rest (a.put o.dst v') w') : wpList Try.prog ops Q (o :: rest) a w := by
  refine wpList_plain hgd fun _ hK' => ?_
  obtain ⟨v', w', hrun, h2, h3⟩ := run_append_rsi h [.slice a1 n1 c1] (news := [r]) rfl (one_news hr hc).1 ad 1 c rfl (one_news hr hc).2 (by simp; omega) hb o.type
  unfold Oper.wp execOp
  simp only [ho, resolve, invoke, builtin, Sem.run_bind, Sem.run_pure, Result.andThen_ok, List.map_toArray, List.map_cons, List.map_nil, hs, hv, hrun]
  exact hK' _ _ (hK v' w' h2 h3)
end

end Go.Proofs.Ytahabfjngeicmaa
