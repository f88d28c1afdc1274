/- The play's add and remove. Printed by wip/tools/adp.py. -/
import Derived.Test.YtaooglagddphnaaAdO
namespace Go.Proofs.Ytaooglagddphnaa
open Go.RowKit

set_option maxRecDepth 100000

/-- A play that keeps the document's lists. -/
structure PM12 (w0 W : World) (base q eb lb : Nat) (V S T : Int) (p gb cap m n : Nat) (f : Nat → Int) (mk : Nat → Nat) (ts : List Tp) (bs : List E1) (qq : Nat → Nat → List Nat) : Prop where
  ps : PS12 w0 W base q eb lb V S T p gb cap m n n f mk ts (Ge bs) (dl qq)
  lq : LQ V S T f qq
  mq : MQ V mk qq
  lk : LK qq bs
/-- The document's lists in the midst of add, of remove. -/
def dA (D : Nat → Nat → List Nat) (s u v l j : Nat) : Nat → Nat → List Nat := if j = 0 then D else if j = 1 then qset D u l (s :: D u l) else qset (qset D u l (s :: D u l)) v l (s :: qset D u l (s :: D u l) v l)
def dR (D : Nat → Nat → List Nat) (s u v l j : Nat) : Nat → Nat → List Nat := if j = 0 then D else if j = 1 then qset D u l (wo12 (D u l) s) else qset (qset D u l (wo12 (D u l) s)) v l (wo12 (qset D u l (wo12 (D u l) s) v l) s)
def PrRel (Q : Nat → Nat → Nat → List Nat) (w0 : World) (base q eb lb xb cb : Nat) (V S T : Int) (p gb cap m n : Nat) (f : Nat → Int) (mk : Nat → Nat) (ts : List Tp) (G : Value → Value → Prop) (u v l : Nat) (t : Bool) (i : Value) (W : World) : Prop :=
  ∃ j : Nat, j ≤ 2 ∧ i = .int .i64 (j : Int) ∧ PS12 w0 W base q eb lb V S T p gb cap m n (n + j) f mk ts G (Q j) ∧ Blk W xb 55 #[.int .i64 (u : Int), .int .i64 (v : Int), .int .i64 (l : Int), .bool t] ∧ Blk W cb 3 #[.int .i64 (u : Int), .int .i64 (v : Int)]
def SP2 (W : World) (q eb lb ab v l : Nat) (V S T : Int) (p : Nat) : Prop := PB12 W q eb lb V S T p ∧ Blk W ab 97 #[.int .i64 (v : Int), .int .i64 (l : Int)]
def SP3 (W : World) (q eb lb xb u v l : Nat) (t : Bool) (V S T : Int) (p : Nat) : Prop := PB12 W q eb lb V S T p ∧ Blk W xb 55 #[.int .i64 (u : Int), .int .i64 (v : Int), .int .i64 (l : Int), .bool t]
section
variable {w w' w0 : World} {base q eb lb p gb cap m n i : Nat} {V S T : Int} {f : Nat → Int} {mk : Nat → Nat} {ts : List Tp} {bs : List E1} {qq : Nat → Nat → List Nat} {e : E1} {a b s u v l : Nat} {D : Nat → Nat → List Nat}
theorem SP2.rule (q eb lb ab v l : Nat) (V S T : Int) (p : Nat) : ∀ W : World, SP2 W q eb lb ab v l V S T p → (W.cell? ⟨q, 13, none⟩ = some (.map (some eb)) ∧ W.cell? ⟨q, 14, none⟩ = some (.map (some lb))) ∧ W.cell? ⟨ab, 0, none⟩ = some (.int .i64 (v : Int)) ∧ W.cell? ⟨ab, 1, none⟩ = some (.int .i64 (l : Int)) :=
  fun _ h => ⟨⟨Blk.cell h.1 13, Blk.cell h.1 14⟩, h.2.cell 0, h.2.cell 1⟩
theorem SP3.rule (q eb lb xb u v l : Nat) (t : Bool) (V S T : Int) (p : Nat) : ∀ W : World, SP3 W q eb lb xb u v l t V S T p → (W.cell? ⟨q, 13, none⟩ = some (.map (some eb)) ∧ W.cell? ⟨q, 14, none⟩ = some (.map (some lb))) ∧ W.cell? ⟨xb, 0, none⟩ = some (.int .i64 (u : Int)) ∧ W.cell? ⟨xb, 1, none⟩ = some (.int .i64 (v : Int)) ∧ W.cell? ⟨xb, 2, none⟩ = some (.int .i64 (l : Int)) ∧ W.cell? ⟨xb, 3, none⟩ = some (.bool t) :=
  fun _ h => ⟨⟨Blk.cell h.1 13, Blk.cell h.1 14⟩, h.2.cell 0, h.2.cell 1, h.2.cell 2, h.2.cell 3⟩
theorem wo12_filter (L : List Nat) (s : Nat) : wo12 L s = L.filter fun y => y ≠ s := by
  unfold wo12
  refine List.filter_congr fun y _ => ?_
  by_cases h : y = s
  · subst h; simp
  · simp [h]
theorem dA_two (huv : u ≠ v) : dA (dl qq) s u v l 2 a b = dl (add2 qq s u v l) a b := by
  rw [dl_add]
  show qset (qset (dl qq) u l (s :: dl qq u l)) v l (s :: qset (dl qq) u l (s :: dl qq u l) v l) a b = _
  rw [qset_ne (a := v) (by omega)]
  unfold qset
  by_cases c : a = v ∧ b = l
  · rw [if_pos c, if_pos ⟨c.2, .inr c.1⟩, c.1, c.2]
  · rw [if_neg c]
    by_cases c2 : a = u ∧ b = l
    · rw [if_pos c2, if_pos ⟨c2.2, .inl c2.1⟩, c2.1, c2.2]
    · rw [if_neg c2, if_neg (by omega)]
theorem dR_two (h : LK qq bs) (hq : ∀ a b, (qq a b).Nodup) (h1 : ∀ a b x, x ∈ qq a b → 1 ≤ x) {e : E1} (he : e ∈ bs) (huv : e.u ≠ e.v) (hu : ∀ e' ∈ bs, e'.s = e.s → e' = e) : dR (dl qq) e.s e.u e.v e.l 2 a b = dl (rem2 qq e.s e.u e.v e.l) a b := by
  rw [dl_rem h hq h1 he huv hu]
  show qset (qset (dl qq) e.u e.l (wo12 (dl qq e.u e.l) e.s)) e.v e.l (wo12 (qset (dl qq) e.u e.l (wo12 (dl qq e.u e.l) e.s) e.v e.l) e.s) a b = _
  rw [qset_ne (a := e.v) (by omega), wo12_filter, wo12_filter]
  unfold qset
  by_cases c : a = e.v ∧ b = e.l
  · rw [if_pos c, if_pos ⟨c.2, .inr c.1⟩, c.1, c.2]
  · rw [if_neg c]
    by_cases c2 : a = e.u ∧ b = e.l
    · rw [if_pos c2, if_pos ⟨c2.2, .inl c2.1⟩, c2.1, c2.2]
    · rw [if_neg c2, if_neg (by omega)]
theorem uniq12 (hs : bs.Pairwise fun a b => a.s ≠ b.s ∧ ¬ (a.u = b.u ∧ a.v = b.v)) (he : e ∈ bs) : ∀ e' ∈ bs, e'.s = e.s → e' = e := fun e' he' es => by
  obtain ⟨i, hi⟩ := List.mem_iff_getElem?.1 he'
  obtain ⟨j, hj⟩ := List.mem_iff_getElem?.1 he
  have ⟨h1, e1⟩ := List.getElem?_eq_some_iff.1 hi
  have ⟨h2, e2⟩ := List.getElem?_eq_some_iff.1 hj
  rcases Nat.lt_trichotomy i j with c | c | c
  · have := (List.pairwise_iff_getElem.1 hs i j h1 h2 c).1
    rw [e1, e2] at this; exact absurd es this
  · subst c; rw [hi] at hj; injection hj
  · have := (List.pairwise_iff_getElem.1 hs j i h2 h1 c).1
    rw [e1, e2] at this; exact absurd es.symm this
theorem ge_add (hn : ∀ e' ∈ bs, e'.s ≠ e.s) (x u : Value) : Ge (bs ++ [e]) x u ↔ (x = .int .i64 (e.s : Int) ∧ u = vEd e.u e.v e.l e.t) ∨ (x ≠ .int .i64 (e.s : Int) ∧ Ge bs x u) := by
  constructor
  · rintro ⟨e', he, h1, h2⟩
    rcases List.mem_append.1 he with he | he
    · exact .inr ⟨fun h => hn e' he (by rw [h1] at h; injection h with _ h; omega), e', he, h1, h2⟩
    · rw [List.mem_singleton.1 he] at h1 h2; exact .inl ⟨h1, h2⟩
  · rintro (⟨h1, h2⟩ | ⟨_, e', he, h1, h2⟩)
    · exact ⟨e, by simp, h1, h2⟩
    · exact ⟨e', by simp [he], h1, h2⟩
theorem ge_rem (hs : bs.Pairwise fun a b => a.s ≠ b.s ∧ ¬ (a.u = b.u ∧ a.v = b.v)) (hi : bs[i]? = some e) (x u : Value) : Ge (bs.eraseIdx i) x u ↔ (x ≠ .int .i64 (e.s : Int) ∧ Ge bs x u) := by
  have hu := uniq12 hs (List.mem_of_getElem? hi)
  constructor
  · rintro ⟨e', he, h1, h2⟩
    obtain ⟨j, hj, ej⟩ := mem_erase_of he
    refine ⟨fun h => ?_, e', List.mem_of_getElem? ej, h1, h2⟩
    have es : e'.s = e.s := by rw [h1] at h; injection h with _ h; omega
    have ⟨g1, e1⟩ := List.getElem?_eq_some_iff.1 ej
    have ⟨g2, e2⟩ := List.getElem?_eq_some_iff.1 hi
    rcases Nat.lt_or_gt_of_ne hj with c | c
    · have := (List.pairwise_iff_getElem.1 hs j i g1 g2 c).1
      rw [e1, e2] at this; exact this es
    · have := (List.pairwise_iff_getElem.1 hs i j g2 g1 c).1
      rw [e1, e2] at this; exact this es.symm
  · rintro ⟨hne, e', he, h1, h2⟩
    obtain ⟨j, hj⟩ := List.mem_iff_getElem?.1 he
    refine ⟨e', mem_erase_is hj fun c => hne ?_, h1, h2⟩
    subst c; rw [hi] at hj; injection hj with hj; rw [h1, ← hj]
set_option maxHeartbeats 4000000 in
theorem padd12 (h : PM12 w0 w base q eb lb V S T p gb cap m n f mk ts bs qq) (hE : ER V S T f (bs ++ [e])) (hm : m ≤ 99880000) :
    Calls Try.prog 46 #[.pointer (some ⟨q, 0, none⟩), .int .i64 (e.s : Int), vEd e.u e.v e.l e.t] w fun x w' => ∃ f' mk', x = .returned (.tuple #[]) ∧ PM12 w0 w' base q eb lb V S T p gb cap (m + 34 + 16 * nN V S) (n + 2) f' mk' ts (bs ++ [e]) (add2 qq e.s e.u e.v e.l) ∧ Ke V S T f f' := by
  have hne : ∀ e' ∈ bs, e'.s ≠ e.s := fun e' he => ((List.pairwise_append.1 hE.un).2.2 e' he e (by simp)).1
  obtain ⟨o1, o2, o3, o4⟩ := hE.ok e (by simp)
  obtain ⟨_, i2, i3⟩ := hE.is e (by simp)
  have hun : bs.Pairwise fun a b => a.s ≠ b.s ∧ ¬ (a.u = b.u ∧ a.v = b.v) := (List.pairwise_append.1 hE.un).1
  have huvb : ∀ e' ∈ bs, e'.u ≠ e'.v := fun e' he => by have := (hE.ok e' (by simp [he])).1; omega
  have HGE := Lib.hid (ge_add hne)
  have HDD : Hid ((∀ a b, 2 * e.s + 1 ∉ qq a b) ∧ ∀ a b, 2 * e.s + 2 ∉ qq a b) := Lib.hid ⟨fun a b hx => by
    obtain ⟨e', he, _, h2⟩ := (h.lk a b _).1 hx
    exact hne e' he (by omega), fun a b hx => by
    obtain ⟨e', he, _, h2⟩ := (h.lk a b _).1 hx
    exact hne e' he (by omega)⟩
  have HD2 : Hid (∀ a b, dA (dl qq) e.s e.u e.v e.l 2 a b = dl (add2 qq e.s e.u e.v e.l) a b) := Lib.hid fun a b => dA_two (by omega)
  have HLK2 : Hid (LK (add2 qq e.s e.u e.v e.l) (bs ++ [e])) := Lib.hid (h.lk.add (by omega))
  have hlen : ∀ a b, (dl qq a b).length ≤ 48 := fun a b => by
    have h1 := dl_len (v := a) (l := b) h.ps.ta.hR h.lk h.lq hun huvb
    have h2 := h.ps.ta.hR.s2
    unfold dl
    rw [List.length_map]; omega
  have hsm : ∀ a b, ∀ y ∈ dl qq a b, y ≤ 100000 := fun a b y hy => by
    obtain ⟨x, hx, rfl⟩ := List.mem_map.1 hy
    have h1 := h.lq.rg a b x hx
    have h2 := h.ps.ta.hR.s2
    omega
  have HR := Lib.hid h.ps.ta.hR
  have hn560 := nN_le h.ps.ta.hR
  have HLQ := Lib.hid h.lq
  have HMQ := Lib.hid h.mq
  have HPS := Lib.hid h.ps
  have HE := Lib.hid (And.intro o1 (And.intro o2 (And.intro o3 (And.intro o4 (And.intro i2 i3)))))
  have HV : Hid (e.u ≤ 1000 ∧ e.v ≤ 1000 ∧ e.l ≤ 1000) := Lib.hid (by have := h.ps.ta.hR.v2; have := (lv_bd V).2; omega)
  have s48 : e.s < 48 := by have := h.ps.ta.hR.s2; omega
  clear h hE hne o1 o2 o3 o4 i2 i3 hun huvb
  generalize hDD9 : dl qq = D at HPS HD2 hlen hsm
  have HDQ := Lib.hid hDD9
  clear hDD9
  obtain ⟨s, u, v, l, t⟩ := e
  dsimp only at HGE HDD HD2 HLK2 HE HV s48  ⊢
  have HLN : Hid (∀ j a b, (dA D s u v l j a b).length ≤ 100000) := Lib.hid fun j a b => by
    have key : ∀ (D : Nat → Nat → List Nat) (c : Nat), (∀ a b, (D a b).length ≤ c) → ∀ u l a b, (qset D u l (s :: D u l) a b).length ≤ c + 1 := fun D c h u l a b => by
      have h1 := h a b
      have h2 := h u l
      unfold qset; split
      · rw [List.length_cons]; omega
      · omega
    unfold dA
    split
    · have := hlen a b; omega
    · split
      · have := key D 48 hlen u l a b; omega
      · have := key _ 49 (key D 48 hlen u l) v l a b; omega
  clear hlen hsm
  generalize hG9 : Ge bs = G at HPS HGE
  clear hG9
  obtain ⟨y0, y1, y2, y3, y4, y5, y6, y7, y8, y9, y10, y11, y12, y13, y14⟩ := HPS.out.pb.cells
  have qlt := HPS.out.pb.lt
  go_enter Try.func46, Try.ntmps46
  go_wp2_with fail
  have HX0 : Hid (Blk ((w.alloc (.cells #[.int .i64 (u : Int), .int .i64 (v : Int), .int .i64 (l : Int), .bool t] 55)).alloc (.cells #[.int .i64 (u : Int), .int .i64 (v : Int)] 3)) w.heap.size 55 #[.int .i64 (u : Int), .int .i64 (v : Int), .int .i64 (l : Int), .bool t]) := Lib.hid (Blk.alloc (Blk.new _ _ _) _)
  have HC0 : Hid (Blk ((w.alloc (.cells #[.int .i64 (u : Int), .int .i64 (v : Int), .int .i64 (l : Int), .bool t] 55)).alloc (.cells #[.int .i64 (u : Int), .int .i64 (v : Int)] 3)) (w.heap.size + 1) 3 #[.int .i64 (u : Int), .int .i64 (v : Int)]) := Lib.hid (by
    have e : w.heap.size + 1 = (w.alloc (.cells #[.int .i64 (u : Int), .int .i64 (v : Int), .int .i64 (l : Int), .bool t] 55)).heap.size := by simp
    rw [e]; exact Blk.new _ _ _)
  have HS0 := Lib.hid ((HPS.out.alloc (.cells #[.int .i64 (u : Int), .int .i64 (v : Int), .int .i64 (l : Int), .bool t] 55)).alloc (.cells #[.int .i64 (u : Int), .int .i64 (v : Int)] 3))
  clear HPS y0 y1 y2 y3 y4 y5 y6 y7 y8 y9 y10 y11 y12 y13 y14 qlt 
  generalize (w.alloc (.cells #[.int .i64 (u : Int), .int .i64 (v : Int), .int .i64 (l : Int), .bool t] 55)).alloc (.cells #[.int .i64 (u : Int), .int .i64 (v : Int)] 3) = w2 at HX0 HC0 HS0 ⊢
  generalize w.heap.size + 1 = cb at HC0 ⊢
  generalize w.heap.size = xb at HX0 ⊢
  have HRel : Hid (PrRel (dA D s u v l) w0 base q eb lb xb cb V S T p gb cap m n f mk ts G u v l t (.int .i64 0) w2) := Lib.hid ⟨0, by omega, rfl, HS0.out, HX0.out, HC0.out⟩
  clear HX0 HC0 HS0
  go_loopw [15] (fun i wr => PrRel (dA D s u v l) w0 base q eb lb xb cb V S T p gb cap m n f mk ts G u v l t i wr) (fun i _ => 2 - (intOf i).toNat)
  case atStart => exact HRel.out
  case round =>
    clear HRel
    obtain ⟨j, hj, rfl, hS, hX, hC⟩ := hrel
    have HS := Lib.hid hS
    have HX := Lib.hid hX
    have HC := Lib.hid hC
    clear hS hX hC
    rcases (by omega : j = 0 ∨ j = 1 ∨ j = 2) with hj0 | hj0 | hj0
    · subst hj0
      as_aux_lemma =>
        have HLEN : Hid ((dA D s u v l 0 u l).length ≤ 100000) := Lib.hid (HLN.out 0 u l)
        obtain ⟨y0, y1, y2, y3, y4, y5, y6, y7, y8, y9, y10, y11, y12, y13, y14⟩ := HS.out.pb.cells
        have qlt := HS.out.pb.lt
        have g0 := HC.out.cell 0
        have glt := HC.out.lt
        have x2 := HX.out.cell 2
        have xlt := HX.out.lt
        go_wp2_with fail
        have HA1 : Hid (Blk (wr.alloc (.cells #[.int .i64 (u : Int), .int .i64 (l : Int)] 97)) wr.heap.size 97 #[.int .i64 (u : Int), .int .i64 (l : Int)]) := Lib.hid (Blk.new _ _ _)
        have HS1 := Lib.hid (HS.out.alloc (.cells #[.int .i64 (u : Int), .int .i64 (l : Int)] 97))
        have HX1 := Lib.hid (HX.out.alloc (.cells #[.int .i64 (u : Int), .int .i64 (l : Int)] 97))
        have HC1 := Lib.hid (HC.out.alloc (.cells #[.int .i64 (u : Int), .int .i64 (l : Int)] 97))
        clear HS HX HC g0 glt x2 xlt y0 y1 y2 y3 y4 y5 y6 y7 y8 y9 y10 y11 y12 y13 y14 qlt
        generalize wr.alloc (.cells #[.int .i64 (u : Int), .int .i64 (l : Int)] 97) = W1 at HA1 HS1 HX1 HC1 ⊢
        generalize wr.heap.size = ab at HA1 ⊢
        obtain ⟨val, hli, hbk, hlook⟩ := HS1.out.fl.look (v := u) (l := l) (by have := HV.out; omega) (by have := HV.out; omega)
        have hk1 := hlook W1.drew rfl
        have hk2 := hlook (W1.alloc (.cells #[.int .i64 (s : Int)] 3)).drew (Below.heap_alloc W1 _ lb HS1.out.fl.lt)
        have HLI := Lib.hid hli
        clear hli hbk hlook
        have HD0 : Hid (SP2 W1.drew q eb lb ab u l V S T p) := Lib.hid ⟨HS1.out.drew.pb, HA1.out⟩
        have HD1 : Hid (SP2 (W1.alloc (.cells #[.int .i64 (s : Int)] 3)).drew q eb lb ab u l V S T p) := Lib.hid ⟨(HS1.out.alloc _).drew.pb, Blk.drew (Blk.alloc HA1.out _)⟩
        have HRW : Hid (Blk (W1.alloc (.cells #[.int .i64 (s : Int)] 3)).drew W1.heap.size 3 #[.int .i64 (s : Int)]) := Lib.hid (Blk.new W1 _ _)
        have HLI1 := Lib.hid (HLI.out.alloc (.cells #[.int .i64 (s : Int)] 3)).drew
        have hln : (dA D s u v l 0 u l).length ≤ 100000 := HLEN.out
        have hrule := SP2.rule q eb lb ab u l V S T p
        go_region_held3 (fun W => SP2 W q eb lb ab u l V S T p) (first | (with_reducible assumption) | (with_reducible exact HD0.out) | (with_reducible exact HD1.out) | (with_reducible exact HD2.out) | (with_reducible exact HD3.out))
          (first
            | (refine step_cons_li rfl _ _ rfl rfl HRW.out rfl HLI1.out hln ?_; intro v' w2 hli2 hg2 hbk2; have HB2 : Hid (Below W1.heap.size W1 w2) := Lib.hid (((Below.refl _ W1).alloc (Nat.le_refl _) (.cells #[.int .i64 (s : Int)] 3)).drew.grown hg2 (by simp) (fun i e => by injection e with e; rw [← e]; exact Nat.le_refl _)); have HS2 := Lib.hid (HS1.out.below HB2.out); obtain ⟨w3, hr3, hl3, hg3⟩ := HS2.out.fl.store (v := u) (l := l) (by have := HV.out; omega) (by have := HV.out; omega) hli2 (fun k hk => Nat.le_trans HS1.out.bsz (hbk2 k hk)); have HD2 : Hid (SP2 w2 q eb lb ab u l V S T p) := Lib.hid ⟨HS2.out.pb, Blk.below HA1.out HB2.out (Blk.lt HA1.out)⟩; have HS3 := Lib.hid (HS2.out.lists hl3 hg3); have HD3 : Hid (SP2 w3 q eb lb ab u l V S T p) := Lib.hid ⟨HS3.out.pb, Blk.grown HD2.out.2 hg3 (fun e => HS2.out.fl.ne_blk HD2.out.2 (by injection e))⟩)
            | fail)
        all_goals
          have HR9 : Hid (PrRel (dA D s u v l) w0 base q eb lb xb cb V S T p gb cap m n f mk ts G u v l t (.int .i64 1) w3) := Lib.hid ⟨1, by omega, rfl, HS3.out, Blk.grown (HX1.out.below HB2.out HX1.out.lt) hg3 (fun e => HS2.out.fl.ne_blk (HX1.out.below HB2.out HX1.out.lt) (by injection e)), Blk.grown (HC1.out.below HB2.out HC1.out.lt) hg3 (fun e => HS2.out.fl.ne_blk (HC1.out.below HB2.out HC1.out.lt) (by injection e))⟩
          clear hrule hk1 hk2 HD1 HRW HLI1 hln HD0 HD2 HD3 HS1 HS2 HS3 HX1 HC1 HA1 HLI HB2 hr3 hl3 hg3
          go_wp2_with fail
          go_roundw
          case rel => exact HR9.out
          case measure => simp [intOf]
    · subst hj0
      as_aux_lemma =>
        have HLEN : Hid ((dA D s u v l 1 v l).length ≤ 100000) := Lib.hid (HLN.out 1 v l)
        obtain ⟨y0, y1, y2, y3, y4, y5, y6, y7, y8, y9, y10, y11, y12, y13, y14⟩ := HS.out.pb.cells
        have qlt := HS.out.pb.lt
        have g0 := HC.out.cell 1
        have glt := HC.out.lt
        have x2 := HX.out.cell 2
        have xlt := HX.out.lt
        go_wp2_with fail
        have HA1 : Hid (Blk (wr.alloc (.cells #[.int .i64 (v : Int), .int .i64 (l : Int)] 97)) wr.heap.size 97 #[.int .i64 (v : Int), .int .i64 (l : Int)]) := Lib.hid (Blk.new _ _ _)
        have HS1 := Lib.hid (HS.out.alloc (.cells #[.int .i64 (v : Int), .int .i64 (l : Int)] 97))
        have HX1 := Lib.hid (HX.out.alloc (.cells #[.int .i64 (v : Int), .int .i64 (l : Int)] 97))
        have HC1 := Lib.hid (HC.out.alloc (.cells #[.int .i64 (v : Int), .int .i64 (l : Int)] 97))
        clear HS HX HC g0 glt x2 xlt y0 y1 y2 y3 y4 y5 y6 y7 y8 y9 y10 y11 y12 y13 y14 qlt
        generalize wr.alloc (.cells #[.int .i64 (v : Int), .int .i64 (l : Int)] 97) = W1 at HA1 HS1 HX1 HC1 ⊢
        generalize wr.heap.size = ab at HA1 ⊢
        obtain ⟨val, hli, hbk, hlook⟩ := HS1.out.fl.look (v := v) (l := l) (by have := HV.out; omega) (by have := HV.out; omega)
        have hk1 := hlook W1.drew rfl
        have hk2 := hlook (W1.alloc (.cells #[.int .i64 (s : Int)] 3)).drew (Below.heap_alloc W1 _ lb HS1.out.fl.lt)
        have HLI := Lib.hid hli
        clear hli hbk hlook
        have HD0 : Hid (SP2 W1.drew q eb lb ab v l V S T p) := Lib.hid ⟨HS1.out.drew.pb, HA1.out⟩
        have HD1 : Hid (SP2 (W1.alloc (.cells #[.int .i64 (s : Int)] 3)).drew q eb lb ab v l V S T p) := Lib.hid ⟨(HS1.out.alloc _).drew.pb, Blk.drew (Blk.alloc HA1.out _)⟩
        have HRW : Hid (Blk (W1.alloc (.cells #[.int .i64 (s : Int)] 3)).drew W1.heap.size 3 #[.int .i64 (s : Int)]) := Lib.hid (Blk.new W1 _ _)
        have HLI1 := Lib.hid (HLI.out.alloc (.cells #[.int .i64 (s : Int)] 3)).drew
        have hln : (dA D s u v l 1 v l).length ≤ 100000 := HLEN.out
        have hrule := SP2.rule q eb lb ab v l V S T p
        go_region_held3 (fun W => SP2 W q eb lb ab v l V S T p) (first | (with_reducible assumption) | (with_reducible exact HD0.out) | (with_reducible exact HD1.out) | (with_reducible exact HD2.out) | (with_reducible exact HD3.out))
          (first
            | (refine step_cons_li rfl _ _ rfl rfl HRW.out rfl HLI1.out hln ?_; intro v' w2 hli2 hg2 hbk2; have HB2 : Hid (Below W1.heap.size W1 w2) := Lib.hid (((Below.refl _ W1).alloc (Nat.le_refl _) (.cells #[.int .i64 (s : Int)] 3)).drew.grown hg2 (by simp) (fun i e => by injection e with e; rw [← e]; exact Nat.le_refl _)); have HS2 := Lib.hid (HS1.out.below HB2.out); obtain ⟨w3, hr3, hl3, hg3⟩ := HS2.out.fl.store (v := v) (l := l) (by have := HV.out; omega) (by have := HV.out; omega) hli2 (fun k hk => Nat.le_trans HS1.out.bsz (hbk2 k hk)); have HD2 : Hid (SP2 w2 q eb lb ab v l V S T p) := Lib.hid ⟨HS2.out.pb, Blk.below HA1.out HB2.out (Blk.lt HA1.out)⟩; have HS3 := Lib.hid (HS2.out.lists hl3 hg3); have HD3 : Hid (SP2 w3 q eb lb ab v l V S T p) := Lib.hid ⟨HS3.out.pb, Blk.grown HD2.out.2 hg3 (fun e => HS2.out.fl.ne_blk HD2.out.2 (by injection e))⟩)
            | fail)
        all_goals
          have HR9 : Hid (PrRel (dA D s u v l) w0 base q eb lb xb cb V S T p gb cap m n f mk ts G u v l t (.int .i64 2) w3) := Lib.hid ⟨2, by omega, rfl, HS3.out, Blk.grown (HX1.out.below HB2.out HX1.out.lt) hg3 (fun e => HS2.out.fl.ne_blk (HX1.out.below HB2.out HX1.out.lt) (by injection e)), Blk.grown (HC1.out.below HB2.out HC1.out.lt) hg3 (fun e => HS2.out.fl.ne_blk (HC1.out.below HB2.out HC1.out.lt) (by injection e))⟩
          clear hrule hk1 hk2 HD1 HRW HLI1 hln HD0 HD2 HD3 HS1 HS2 HS3 HX1 HC1 HA1 HLI HB2 hr3 hl3 hg3
          go_wp2_with fail
          go_roundw
          case rel => exact HR9.out
          case measure => simp [intOf]
    · subst hj0
      as_aux_lemma =>
        have HFE := Lib.hid HS.out.drew.fe
        have hs63 : -9223372036854775808 ≤ (s : Int) ∧ (s : Int) ≤ 9223372036854775807 := by omega
        obtain ⟨w4, hr4, hf4, hg4⟩ := HFE.out.store (v := vEd u v l t) (G' := Ge (bs ++ [⟨s, u, v, l, t⟩])) keyedI Try.underlying42 (keyI (s : Int) hs63) HGE.out
        have HS4 := Lib.hid (HS.out.drew.edges hf4 hg4)
        have HD0 : Hid (SP3 wr.drew q eb lb xb u v l t V S T p) := Lib.hid ⟨HS.out.drew.pb, HX.out⟩
        have HD4 : Hid (SP3 w4 q eb lb xb u v l t V S T p) := Lib.hid ⟨HS4.out.pb, Blk.grown (Blk.drew HX.out) hg4 (fun e => HFE.out.ne_blk (Blk.drew HX.out) (by injection e))⟩
        obtain ⟨y0, y1, y2, y3, y4, y5, y6, y7, y8, y9, y10, y11, y12, y13, y14⟩ := HS.out.pb.cells
        have qlt := HS.out.pb.lt
        go_wp2_with fail
        have hrule := SP3.rule q eb lb xb u v l t V S T p
        go_region_held3 (fun W => SP3 W q eb lb xb u v l t V S T p) (first | (with_reducible assumption) | (with_reducible exact HD0.out) | (with_reducible exact HD4.out))
          (fail)
        clear hrule HD0 HD4 hr4 hf4 hg4 HFE HS HX HC y0 y1 y2 y3 y4 y5 y6 y7 y8 y9 y10 y11 y12 y13 y14 qlt
        obtain ⟨y0, y1, y2, y3, y4, y5, y6, y7, y8, y9, y10, y11, y12, y13, y14⟩ := HS4.out.pb.cells
        have qlt := HS4.out.pb.lt
        go_wp2_with fail
        refine (add_any12 HS4.out.ta HLQ.out HMQ.out HE.out.1 HE.out.2.1 HE.out.2.2.1 HE.out.2.2.2.1 HE.out.2.2.2.2.1 HE.out.2.2.2.2.2 HDD.out.1 HDD.out.2 hm).mono ?_; rintro e w5 ⟨f', mk', rfl, A5, Q5, ⟨M5, _⟩, K5, O5⟩
        have HS5 := Lib.hid (HS4.out.next A5 O5)
        have HQ5 := Lib.hid (And.intro Q5 (And.intro M5 K5))
        clear A5 O5 Q5 M5 K5 HS4 y0 y1 y2 y3 y4 y5 y6 y7 y8 y9 y10 y11 y12 y13 y14 qlt
        go_wp2_with fail
        go_end0
        exact ⟨f', mk', rfl, ⟨⟨HS5.out.pb, HS5.out.ta, HS5.out.fe.more (by omega), HS5.out.fl.cong (fun a b => (HD2.out a b).symm), HS5.out.be, HS5.out.bo, HS5.out.kb⟩, HQ5.out.1, HQ5.out.2.1, HLK2.out⟩, HQ5.out.2.2⟩
set_option maxHeartbeats 4000000 in
theorem prem12 (h : PM12 w0 w base q eb lb V S T p gb cap m n f mk ts bs qq) (hE : ER V S T f bs) (hi : bs[i]? = some e) (hm : m ≤ 99880000) :
    Calls Try.prog 47 #[.pointer (some ⟨q, 0, none⟩), .int .i64 (e.s : Int)] w fun x w' => ∃ f' mk', x = .returned (.tuple #[]) ∧ PM12 w0 w' base q eb lb V S T p gb cap (m + 34 + 16 * nN V S) (n + 2) f' mk' ts (bs.eraseIdx i) (rem2 qq e.s e.u e.v e.l) ∧ Ke V S T f f' := by
  have he := List.mem_of_getElem? hi
  obtain ⟨o1, o2, o3, o4⟩ := hE.ok e he
  obtain ⟨_, i2, i3⟩ := hE.is e he
  have hun := hE.un
  have huvb : ∀ e' ∈ bs, e'.u ≠ e'.v := fun e' he => by have := (hE.ok e' he).1; omega
  have hlk9 : Ge bs (.int .i64 (e.s : Int)) (vEd e.u e.v e.l e.t) := ⟨e, he, rfl, rfl⟩
  have hs63 : -9223372036854775808 ≤ (e.s : Int) ∧ (e.s : Int) ≤ 9223372036854775807 := by have := h.ps.ta.hR.s2; omega
  have hk0 := h.ps.fe.look_some false keyedI Try.underlying42 (keyI (e.s : Int) hs63) hlk9
  have HGE := Lib.hid (ge_rem hun hi)
  have HDD : Hid (2 * e.s + 1 ∈ qq e.u e.l ∧ 2 * e.s + 2 ∈ qq e.v e.l) := Lib.hid ⟨(h.lk _ _ _).2 ⟨e, he, rfl, by omega⟩, (h.lk _ _ _).2 ⟨e, he, rfl, by omega⟩⟩
  have HD2 : Hid (∀ a b, dR (dl qq) e.s e.u e.v e.l 2 a b = dl (rem2 qq e.s e.u e.v e.l) a b) := Lib.hid fun a b => dR_two h.lk h.lq.nd (fun a b x hx => (h.lq.rg a b x hx).1) he (by omega) (uniq12 hun he)
  have HLK2 : Hid (LK (rem2 qq e.s e.u e.v e.l) (bs.eraseIdx i)) := Lib.hid (h.lk.rem h.lq.nd hun hi (by omega))
  have HQN : Hid (∀ a b, ((qq a b).length : Int) ≤ S) := Lib.hid fun a b => dl_len (v := a) (l := b) h.ps.ta.hR h.lk h.lq hun huvb
  have hlen : ∀ a b, (dl qq a b).length ≤ 48 := fun a b => by
    have h1 := dl_len (v := a) (l := b) h.ps.ta.hR h.lk h.lq hun huvb
    have h2 := h.ps.ta.hR.s2
    unfold dl
    rw [List.length_map]; omega
  have hsm : ∀ a b, ∀ y ∈ dl qq a b, y ≤ 100000 := fun a b y hy => by
    obtain ⟨x, hx, rfl⟩ := List.mem_map.1 hy
    have h1 := h.lq.rg a b x hx
    have h2 := h.ps.ta.hR.s2
    omega
  have HR := Lib.hid h.ps.ta.hR
  have hn560 := nN_le h.ps.ta.hR
  have HLQ := Lib.hid h.lq
  have HMQ := Lib.hid h.mq
  have HPS := Lib.hid h.ps
  have HE := Lib.hid (And.intro o1 (And.intro o2 (And.intro o3 (And.intro o4 (And.intro i2 i3)))))
  have HV : Hid (e.u ≤ 1000 ∧ e.v ≤ 1000 ∧ e.l ≤ 1000) := Lib.hid (by have := h.ps.ta.hR.v2; have := (lv_bd V).2; omega)
  have s48 : e.s < 48 := by have := h.ps.ta.hR.s2; omega
  clear h hE he hi hlk9 o1 o2 o3 o4 i2 i3 hun huvb
  generalize hDD9 : dl qq = D at HPS HD2 hlen hsm
  have HDQ := Lib.hid hDD9
  clear hDD9
  obtain ⟨s, u, v, l, t⟩ := e
  dsimp only at HGE HDD HD2 HLK2 HE HV s48 hk0 hs63 ⊢
  have HLN : Hid (∀ j a b, (dR D s u v l j a b).length ≤ 100000) := Lib.hid fun j a b => by
    have key : ∀ (D : Nat → Nat → List Nat) (c : Nat), (∀ a b, (D a b).length ≤ c) → ∀ u l a b, (qset D u l (wo12 (D u l) s) a b).length ≤ c := fun D c h u l a b => by
      have h1 := h a b
      have h2 := h u l
      have h3 : (wo12 (D u l) s).length ≤ (D u l).length := List.length_filter_le _ _
      unfold qset; split <;> omega
    unfold dR
    split
    · have := hlen a b; omega
    · split
      · have := key D 48 hlen u l a b; omega
      · have := key _ 48 (key D 48 hlen u l) v l a b; omega
  have HLM : Hid (∀ j a b, ∀ y ∈ dR D s u v l j a b, y ≤ 100000) := Lib.hid fun j a b => by
    have key : ∀ (D : Nat → Nat → List Nat), (∀ a b, ∀ y ∈ D a b, y ≤ 100000) → ∀ u l a b, ∀ y ∈ qset D u l (wo12 (D u l) s) a b, y ≤ 100000 := fun D h u l a b y hy => by
      unfold qset at hy; split at hy
      · exact h u l y (List.mem_filter.1 hy).1
      · exact h a b y hy
    unfold dR
    split
    · exact hsm a b
    · split
      · exact key D hsm u l a b
      · exact key _ (key D hsm u l) v l a b
  have HSM : Hid (s ≤ 100000) := Lib.hid (by omega)
  clear hlen hsm
  generalize hG9 : Ge bs = G at HPS HGE
  clear hG9
  obtain ⟨y0, y1, y2, y3, y4, y5, y6, y7, y8, y9, y10, y11, y12, y13, y14⟩ := HPS.out.pb.cells
  have qlt := HPS.out.pb.lt
  go_enter Try.func47, Try.ntmps47
  go_wp2_with fail
  have HX0 : Hid (Blk ((w.alloc (.cells #[.int .i64 (u : Int), .int .i64 (v : Int), .int .i64 (l : Int), .bool t] 55)).alloc (.cells #[.int .i64 (u : Int), .int .i64 (v : Int)] 3)) w.heap.size 55 #[.int .i64 (u : Int), .int .i64 (v : Int), .int .i64 (l : Int), .bool t]) := Lib.hid (Blk.alloc (Blk.new _ _ _) _)
  have HC0 : Hid (Blk ((w.alloc (.cells #[.int .i64 (u : Int), .int .i64 (v : Int), .int .i64 (l : Int), .bool t] 55)).alloc (.cells #[.int .i64 (u : Int), .int .i64 (v : Int)] 3)) (w.heap.size + 1) 3 #[.int .i64 (u : Int), .int .i64 (v : Int)]) := Lib.hid (by
    have e : w.heap.size + 1 = (w.alloc (.cells #[.int .i64 (u : Int), .int .i64 (v : Int), .int .i64 (l : Int), .bool t] 55)).heap.size := by simp
    rw [e]; exact Blk.new _ _ _)
  have HS0 := Lib.hid ((HPS.out.alloc (.cells #[.int .i64 (u : Int), .int .i64 (v : Int), .int .i64 (l : Int), .bool t] 55)).alloc (.cells #[.int .i64 (u : Int), .int .i64 (v : Int)] 3))
  clear HPS y0 y1 y2 y3 y4 y5 y6 y7 y8 y9 y10 y11 y12 y13 y14 qlt hk0
  generalize (w.alloc (.cells #[.int .i64 (u : Int), .int .i64 (v : Int), .int .i64 (l : Int), .bool t] 55)).alloc (.cells #[.int .i64 (u : Int), .int .i64 (v : Int)] 3) = w2 at HX0 HC0 HS0 ⊢
  generalize w.heap.size + 1 = cb at HC0 ⊢
  generalize w.heap.size = xb at HX0 ⊢
  have HRel : Hid (PrRel (dR D s u v l) w0 base q eb lb xb cb V S T p gb cap m n f mk ts G u v l t (.int .i64 0) w2) := Lib.hid ⟨0, by omega, rfl, HS0.out, HX0.out, HC0.out⟩
  clear HX0 HC0 HS0
  go_loopw [20] (fun i wr => PrRel (dR D s u v l) w0 base q eb lb xb cb V S T p gb cap m n f mk ts G u v l t i wr) (fun i _ => 2 - (intOf i).toNat)
  case atStart => exact HRel.out
  case round =>
    clear HRel
    obtain ⟨j, hj, rfl, hS, hX, hC⟩ := hrel
    have HS := Lib.hid hS
    have HX := Lib.hid hX
    have HC := Lib.hid hC
    clear hS hX hC
    rcases (by omega : j = 0 ∨ j = 1 ∨ j = 2) with hj0 | hj0 | hj0
    · subst hj0
      as_aux_lemma =>
        have HLEN : Hid ((dR D s u v l 0 u l).length ≤ 100000) := Lib.hid (HLN.out 0 u l)
        have HLEM : Hid (∀ y ∈ dR D s u v l 0 u l, y ≤ 100000) := Lib.hid (HLM.out 0 u l)
        obtain ⟨y0, y1, y2, y3, y4, y5, y6, y7, y8, y9, y10, y11, y12, y13, y14⟩ := HS.out.pb.cells
        have qlt := HS.out.pb.lt
        have g0 := HC.out.cell 0
        have glt := HC.out.lt
        have x2 := HX.out.cell 2
        have xlt := HX.out.lt
        go_wp2_with fail
        have HA1 : Hid (Blk (wr.alloc (.cells #[.int .i64 (u : Int), .int .i64 (l : Int)] 97)) wr.heap.size 97 #[.int .i64 (u : Int), .int .i64 (l : Int)]) := Lib.hid (Blk.new _ _ _)
        have HS1 := Lib.hid (HS.out.alloc (.cells #[.int .i64 (u : Int), .int .i64 (l : Int)] 97))
        have HX1 := Lib.hid (HX.out.alloc (.cells #[.int .i64 (u : Int), .int .i64 (l : Int)] 97))
        have HC1 := Lib.hid (HC.out.alloc (.cells #[.int .i64 (u : Int), .int .i64 (l : Int)] 97))
        clear HS HX HC g0 glt x2 xlt y0 y1 y2 y3 y4 y5 y6 y7 y8 y9 y10 y11 y12 y13 y14 qlt
        generalize wr.alloc (.cells #[.int .i64 (u : Int), .int .i64 (l : Int)] 97) = W1 at HA1 HS1 HX1 HC1 ⊢
        generalize wr.heap.size = ab at HA1 ⊢
        obtain ⟨val, hli, hbk, hlook⟩ := HS1.out.fl.look (v := u) (l := l) (by have := HV.out; omega) (by have := HV.out; omega)
        have hk1 := hlook W1.drew rfl
        have HLI := Lib.hid hli
        clear hli hbk hlook
        have HD0 : Hid (SP2 W1.drew q eb lb ab u l V S T p) := Lib.hid ⟨HS1.out.drew.pb, HA1.out⟩
        have hrule := SP2.rule q eb lb ab u l V S T p
        go_region_held3 (fun W => SP2 W q eb lb ab u l V S T p) (first | (with_reducible assumption) | (with_reducible exact HD0.out) | (with_reducible exact HD2.out) | (with_reducible exact HD3.out))
          (first
            | (go_at_call 100; ((with_reducible refine (out_any12 (l := dR D s u v l 0 u l) HLI.out.drew HLEN.out HSM.out HLEM.out).mono ?_); rintro e w2 ⟨v', rfl, hli2, hbk2, hB2⟩; have HB2 : Hid (Below W1.heap.size W1 w2) := Lib.hid ((Below.refl _ W1).drew.trans hB2); have HS2 := Lib.hid (HS1.out.below HB2.out); obtain ⟨w3, hr3, hl3, hg3⟩ := HS2.out.fl.store (v := u) (l := l) (by have := HV.out; omega) (by have := HV.out; omega) hli2 (fun k hk => Nat.le_trans HS1.out.bsz (hbk2 k hk)); have HD2 : Hid (SP2 w2 q eb lb ab u l V S T p) := Lib.hid ⟨HS2.out.pb, Blk.below HA1.out HB2.out (Blk.lt HA1.out)⟩; have HS3 := Lib.hid (HS2.out.lists hl3 hg3); have HD3 : Hid (SP2 w3 q eb lb ab u l V S T p) := Lib.hid ⟨HS3.out.pb, Blk.grown HD2.out.2 hg3 (fun e => HS2.out.fl.ne_blk HD2.out.2 (by injection e))⟩))
            | fail)
        all_goals
          have HR9 : Hid (PrRel (dR D s u v l) w0 base q eb lb xb cb V S T p gb cap m n f mk ts G u v l t (.int .i64 1) w3) := Lib.hid ⟨1, by omega, rfl, HS3.out, Blk.grown (HX1.out.below HB2.out HX1.out.lt) hg3 (fun e => HS2.out.fl.ne_blk (HX1.out.below HB2.out HX1.out.lt) (by injection e)), Blk.grown (HC1.out.below HB2.out HC1.out.lt) hg3 (fun e => HS2.out.fl.ne_blk (HC1.out.below HB2.out HC1.out.lt) (by injection e))⟩
          clear hrule hk1  HD0 HD2 HD3 HS1 HS2 HS3 HX1 HC1 HA1 HLI HB2 hr3 hl3 hg3
          go_wp2_with fail
          go_roundw
          case rel => exact HR9.out
          case measure => simp [intOf]
    · subst hj0
      as_aux_lemma =>
        have HLEN : Hid ((dR D s u v l 1 v l).length ≤ 100000) := Lib.hid (HLN.out 1 v l)
        have HLEM : Hid (∀ y ∈ dR D s u v l 1 v l, y ≤ 100000) := Lib.hid (HLM.out 1 v l)
        obtain ⟨y0, y1, y2, y3, y4, y5, y6, y7, y8, y9, y10, y11, y12, y13, y14⟩ := HS.out.pb.cells
        have qlt := HS.out.pb.lt
        have g0 := HC.out.cell 1
        have glt := HC.out.lt
        have x2 := HX.out.cell 2
        have xlt := HX.out.lt
        go_wp2_with fail
        have HA1 : Hid (Blk (wr.alloc (.cells #[.int .i64 (v : Int), .int .i64 (l : Int)] 97)) wr.heap.size 97 #[.int .i64 (v : Int), .int .i64 (l : Int)]) := Lib.hid (Blk.new _ _ _)
        have HS1 := Lib.hid (HS.out.alloc (.cells #[.int .i64 (v : Int), .int .i64 (l : Int)] 97))
        have HX1 := Lib.hid (HX.out.alloc (.cells #[.int .i64 (v : Int), .int .i64 (l : Int)] 97))
        have HC1 := Lib.hid (HC.out.alloc (.cells #[.int .i64 (v : Int), .int .i64 (l : Int)] 97))
        clear HS HX HC g0 glt x2 xlt y0 y1 y2 y3 y4 y5 y6 y7 y8 y9 y10 y11 y12 y13 y14 qlt
        generalize wr.alloc (.cells #[.int .i64 (v : Int), .int .i64 (l : Int)] 97) = W1 at HA1 HS1 HX1 HC1 ⊢
        generalize wr.heap.size = ab at HA1 ⊢
        obtain ⟨val, hli, hbk, hlook⟩ := HS1.out.fl.look (v := v) (l := l) (by have := HV.out; omega) (by have := HV.out; omega)
        have hk1 := hlook W1.drew rfl
        have HLI := Lib.hid hli
        clear hli hbk hlook
        have HD0 : Hid (SP2 W1.drew q eb lb ab v l V S T p) := Lib.hid ⟨HS1.out.drew.pb, HA1.out⟩
        have hrule := SP2.rule q eb lb ab v l V S T p
        go_region_held3 (fun W => SP2 W q eb lb ab v l V S T p) (first | (with_reducible assumption) | (with_reducible exact HD0.out) | (with_reducible exact HD2.out) | (with_reducible exact HD3.out))
          (first
            | (go_at_call 100; ((with_reducible refine (out_any12 (l := dR D s u v l 1 v l) HLI.out.drew HLEN.out HSM.out HLEM.out).mono ?_); rintro e w2 ⟨v', rfl, hli2, hbk2, hB2⟩; have HB2 : Hid (Below W1.heap.size W1 w2) := Lib.hid ((Below.refl _ W1).drew.trans hB2); have HS2 := Lib.hid (HS1.out.below HB2.out); obtain ⟨w3, hr3, hl3, hg3⟩ := HS2.out.fl.store (v := v) (l := l) (by have := HV.out; omega) (by have := HV.out; omega) hli2 (fun k hk => Nat.le_trans HS1.out.bsz (hbk2 k hk)); have HD2 : Hid (SP2 w2 q eb lb ab v l V S T p) := Lib.hid ⟨HS2.out.pb, Blk.below HA1.out HB2.out (Blk.lt HA1.out)⟩; have HS3 := Lib.hid (HS2.out.lists hl3 hg3); have HD3 : Hid (SP2 w3 q eb lb ab v l V S T p) := Lib.hid ⟨HS3.out.pb, Blk.grown HD2.out.2 hg3 (fun e => HS2.out.fl.ne_blk HD2.out.2 (by injection e))⟩))
            | fail)
        all_goals
          have HR9 : Hid (PrRel (dR D s u v l) w0 base q eb lb xb cb V S T p gb cap m n f mk ts G u v l t (.int .i64 2) w3) := Lib.hid ⟨2, by omega, rfl, HS3.out, Blk.grown (HX1.out.below HB2.out HX1.out.lt) hg3 (fun e => HS2.out.fl.ne_blk (HX1.out.below HB2.out HX1.out.lt) (by injection e)), Blk.grown (HC1.out.below HB2.out HC1.out.lt) hg3 (fun e => HS2.out.fl.ne_blk (HC1.out.below HB2.out HC1.out.lt) (by injection e))⟩
          clear hrule hk1  HD0 HD2 HD3 HS1 HS2 HS3 HX1 HC1 HA1 HLI HB2 hr3 hl3 hg3
          go_wp2_with fail
          go_roundw
          case rel => exact HR9.out
          case measure => simp [intOf]
    · subst hj0
      as_aux_lemma =>
        obtain ⟨w4, hr4, hf4, hg4⟩ := HS.out.fe.drop (G' := Ge (bs.eraseIdx i)) keyedI Try.underlying42 (keyI (s : Int) hs63) 0 HGE.out
        have hr5 : ∀ ty, (Builtin.delete_ #[42, 3] ty #[.map (some eb), .int .i64 (s : Int)]).run Try.prog wr = .ok (.tuple #[]) w4 := fun _ => hr4
        have HS4 := Lib.hid (HS.out.edges hf4 hg4)
        obtain ⟨y0, y1, y2, y3, y4, y5, y6, y7, y8, y9, y10, y11, y12, y13, y14⟩ := HS.out.pb.cells
        have qlt := HS.out.pb.lt
        obtain ⟨z0, z1, z2, z3, z4, z5, z6, z7, z8, z9, z10, z11, z12, z13, z14⟩ := HS4.out.pb.cells
        have zlt := HS4.out.pb.lt
        go_wp2_with (at_builtin; refine wpList_delete12 rfl _ _ _ _ rfl rfl rfl hr5 ?_)
        clear hr4 hf4 hg4 hr5 HS HX HC y0 y1 y2 y3 y4 y5 y6 y7 y8 y9 y10 y11 y12 y13 y14 qlt
        refine (rem_any12 HS4.out.ta HLQ.out HMQ.out HE.out.1 HE.out.2.1 HE.out.2.2.1 HE.out.2.2.2.1 HE.out.2.2.2.2.1 HE.out.2.2.2.2.2 HDD.out.1 HDD.out.2 (HQN.out _ _) (HQN.out _ _) hm).mono ?_; rintro e w5 ⟨f', mk', rfl, A5, Q5, ⟨M5, _⟩, K5, O5⟩
        have HS5 := Lib.hid (HS4.out.next A5 O5)
        have HQ5 := Lib.hid (And.intro Q5 (And.intro M5 K5))
        clear A5 O5 Q5 M5 K5 HS4 z0 z1 z2 z3 z4 z5 z6 z7 z8 z9 z10 z11 z12 z13 z14 zlt
        go_wp2_with fail
        go_end0
        exact ⟨f', mk', rfl, ⟨⟨HS5.out.pb, HS5.out.ta, HS5.out.fe.more (by omega), HS5.out.fl.cong (fun a b => (HD2.out a b).symm), HS5.out.be, HS5.out.bo, HS5.out.kb⟩, HQ5.out.1, HQ5.out.2.1, HLK2.out⟩, HQ5.out.2.2⟩
end
end Go.Proofs.Ytaooglagddphnaa
