/- Lists of sides, plainly: what cells tell of a list that can be gone through both ways; one comes first, one goes out. -/
import Derived.Test.YtaooglagddphnaaAdB
namespace Go.Proofs.Ytaooglagddphnaa
open Go.RowKit

/-- A side's cells. (Sides as cells have them: from 1 on.) -/
def nxC (S T : Int) (x : Nat) : Nat := sC S T ((x - 1) / 2) (3 + (x - 1) % 2)
def pvC (S T : Int) (x : Nat) : Nat := sC S T ((x - 1) / 2) (5 + (x - 1) % 2)
def hC (V S T : Int) (v l : Nat) : Nat := (headF V S T (v : Int) (l : Int)).toNat
/-- From a, at x, through l, to b, at y. -/
def Part (S T : Int) (f : Nat → Int) : Nat → Nat → List Nat → Nat → Nat → Prop
  | a, x, [], b, y => a = b ∧ x = y
  | a, x, z :: l, b, y => x = z ∧ z ≠ 0 ∧ f (pvC S T z) = (a : Int) ∧ ∃ n : Nat, f (nxC S T z) = (n : Int) ∧ Part S T f z n l b y
section
variable {S T : Int} {f f' : Nat → Int} {a x b y c z n : Nat} {l l1 l2 : List Nat}
theorem Part.cong : ∀ {l : List Nat} {a x : Nat}, Part S T f a x l b y → (∀ z ∈ l, f' (pvC S T z) = f (pvC S T z) ∧ f' (nxC S T z) = f (nxC S T z)) → Part S T f' a x l b y
  | [], _, _, h, _ => h
  | z :: l, a, x, ⟨h1, h2, h3, n, h4, h5⟩, e => ⟨h1, h2, (e z (by simp)).1.trans h3, n, (e z (by simp)).2.trans h4, h5.cong fun z' hz => e z' (by simp [hz])⟩
theorem Part.join : ∀ {l1 : List Nat} {a x : Nat}, Part S T f a x l1 b y → Part S T f b y l2 c z → Part S T f a x (l1 ++ l2) c z
  | [], _, _, ⟨rfl, rfl⟩, h => h
  | _ :: _, _, _, ⟨h1, h2, h3, n, h4, h5⟩, h => ⟨h1, h2, h3, n, h4, h5.join h⟩
theorem Part.split : ∀ {l1 : List Nat} {a x : Nat}, Part S T f a x (l1 ++ l2) c z → ∃ b y, Part S T f a x l1 b y ∧ Part S T f b y l2 c z
  | [], a, x, h => ⟨a, x, ⟨rfl, rfl⟩, h⟩
  | _ :: _, _, _, ⟨h1, h2, h3, n, h4, h5⟩ => by
    obtain ⟨b, y, h6, h7⟩ := h5.split
    exact ⟨b, y, ⟨h1, h2, h3, n, h4, h6⟩, h7⟩
/-- The one that one comes from is the last one of what was gone through. -/
theorem Part.last : ∀ {l : List Nat} {a x : Nat}, Part S T f a x l b y → b = l.getLast?.getD a
  | [], _, _, ⟨h, _⟩ => h.symm
  | z :: l, a, x, ⟨_, _, _, n, _, h5⟩ => by
    have := h5.last
    rw [this, List.getLast?_cons]
    cases l.getLast? <;> rfl
theorem Part.head (h : Part S T f a x (z :: l) b y) : x = z := h.1
theorem Part.head' (h : Part S T f a x l b 0) : x = l.headD 0 := by
  cases l with
  | nil => exact h.2
  | cons z l => exact h.1
/-- What ends a list turned: the next one of its last one, or the head. -/
theorem Part.ends : ∀ {l : List Nat} {a x : Nat}, Part S T f a x l b y → l.Nodup → (∀ z ∈ l, f' (pvC S T z) = f (pvC S T z)) → (∀ z ∈ l, z ≠ b → f' (nxC S T z) = f (nxC S T z)) → (l ≠ [] → f' (nxC S T b) = (n : Int)) → (x' : Nat) → (l = [] → x' = n) → (l ≠ [] → x' = x) → Part S T f' a x' l b n
  | [], _, _, h, _, _, _, _, x', e, _ => ⟨h.1, e rfl⟩
  | z :: l, a, x, ⟨h1, h2, h3, m, h4, h5⟩, hn, e1, e2, e3, x', _, e5 => by
    have hx' : x' = z := (e5 (by simp)).trans h1
    have hb := Part.last h5
    obtain ⟨hz, hl⟩ := List.nodup_cons.1 hn
    by_cases h0 : l = []
    · subst h0
      have hb' : b = z := hb
      subst hb'
      exact ⟨hx', h2, (e1 b (by simp)).trans h3, n, e3 (by simp), ⟨rfl, rfl⟩⟩
    · have hbl : b ∈ l := by
        rw [hb, List.getLast?_eq_some_getLast h0]; exact List.getLast_mem h0
      have hzb : z ≠ b := fun e => hz (e ▸ hbl)
      exact ⟨hx', h2, (e1 z (by simp)).trans h3, m, (e2 z (by simp) hzb).trans h4, Part.ends h5 hl (fun y hy => e1 y (by simp [hy])) (fun y hy => e2 y (by simp [hy])) (fun _ => e3 (by simp)) m (fun e => absurd e h0) (fun _ => rfl)⟩
/-- One comes first. -/
theorem Part.front (h : Part S T f 0 x l b 0) (hn : l.Nodup) (hz : z ≠ 0) (h1 : f' (pvC S T z) = 0) (h2 : f' (nxC S T z) = (x : Int)) (h3 : x ≠ 0 → f' (pvC S T x) = (z : Int))
    (e1 : ∀ y ∈ l, f' (nxC S T y) = f (nxC S T y)) (e2 : ∀ y ∈ l, y ≠ x → f' (pvC S T y) = f (pvC S T y)) : ∃ b', Part S T f' 0 z (z :: l) b' 0 := by
  cases l with
  | nil => exact ⟨z, rfl, hz, h1, x, h2, rfl, h.2⟩
  | cons y l =>
    obtain ⟨rfl, g2, g3, n, g4, g5⟩ := h
    obtain ⟨hy, hl⟩ := List.nodup_cons.1 hn
    exact ⟨b, rfl, hz, h1, x, h2, rfl, g2, h3 g2, n, (e1 x (by simp)).trans g4, g5.cong fun u hu => ⟨e2 u (by simp [hu]) fun e => hy (e ▸ hu), e1 u (by simp [hu])⟩⟩
/-- One goes out. -/
theorem Part.out {p x' : Nat} (h : Part S T f 0 x (l1 ++ z :: l2) c 0) (hn : (l1 ++ z :: l2).Nodup) (hp : p = l1.getLast?.getD 0) (hz : f (nxC S T z) = (n : Int))
    (h1 : l1 = [] → x' = n) (h2 : l1 ≠ [] → x' = x ∧ f' (nxC S T p) = (n : Int)) (h3 : n ≠ 0 → f' (pvC S T n) = (p : Int))
    (e1 : ∀ y ∈ l1, f' (pvC S T y) = f (pvC S T y)) (e2 : ∀ y ∈ l1, y ≠ p → f' (nxC S T y) = f (nxC S T y)) (e3 : ∀ y ∈ l2, f' (nxC S T y) = f (nxC S T y)) (e4 : ∀ y ∈ l2, y ≠ n → f' (pvC S T y) = f (pvC S T y)) :
    f (pvC S T z) = (p : Int) ∧ ∃ c', Part S T f' 0 x' (l1 ++ l2) c' 0 := by
  obtain ⟨b, y, g1, rfl, g2, g3, m, g4, g5⟩ := h.split
  have hb : b = p := (Part.last g1).trans hp.symm
  subst hb
  have em : m = n := by rw [g4] at hz; omega
  subst em
  obtain ⟨n1, n2, n3⟩ := List.nodup_append.1 hn
  have G := Part.ends (n := m) (x' := x') g1 n1 e1 e2 (fun e => (h2 e).2) h1 fun e => (h2 e).1
  refine ⟨g3, ?_⟩
  cases l2 with
  | nil => exact ⟨b, by rw [List.append_nil]; rw [g5.2] at G; exact G⟩
  | cons u l3 =>
    obtain ⟨rfl, k2, k3, k, k4, k5⟩ := g5
    obtain ⟨_, n4⟩ := List.nodup_cons.1 n2
    obtain ⟨n5, _⟩ := List.nodup_cons.1 n4
    exact ⟨c, G.join ⟨rfl, k2, h3 k2, k, (e3 m (by simp)).trans k4, k5.cong fun u hu => ⟨e4 u (by simp [hu]) fun e => n5 (e ▸ hu), e3 u (by simp [hu])⟩⟩⟩
end
end Go.Proofs.Ytaooglagddphnaa
