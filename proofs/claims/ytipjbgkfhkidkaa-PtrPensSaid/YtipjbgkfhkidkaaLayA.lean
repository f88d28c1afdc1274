/- What stands where: numbers alone, without the program. -/
import Derived.WalkKit
namespace Go.Proofs.Ytipjbgkfhkidkaa

/-- A right lay. -/
structure Rt (V S T : Int) : Prop where
  v1 : 1 ≤ V
  v2 : V ≤ 16
  s1 : 0 ≤ S
  s2 : S ≤ 48
  t1 : 1 ≤ T
  t2 : T ≤ 8

def rtB (V S T : Int) : Bool := decide (1 ≤ V ∧ V ≤ 16 ∧ 0 ≤ S ∧ S ≤ 48 ∧ 1 ≤ T ∧ T ≤ 8)
theorem rtB_yes {V S T : Int} (h : rtB V S T = true) : Rt V S T := by
  unfold rtB at h; have := of_decide_eq_true h; exact ⟨this.1, this.2.1, this.2.2.1, this.2.2.2.1, this.2.2.2.2.1, this.2.2.2.2.2⟩
theorem Rt.yes {V S T : Int} (h : Rt V S T) : rtB V S T = true := decide_eq_true ⟨h.v1, h.v2, h.s1, h.s2, h.t1, h.t2⟩

/-- Levels. -/
def lv (V : Int) : Int := if V < 2 then 1 else if V < 4 then 2 else if V < 8 then 3 else if V < 16 then 4 else 5
theorem lv_bd (V : Int) : 1 ≤ lv V ∧ lv V ≤ 5 := by unfold lv; split <;> (try split) <;> (try split) <;> (try split) <;> omega

/-- Nodes of vertices, of one slot, pairs of vertices, all nodes. -/
def vn (V : Int) : Int := lv V * V
def sn (V : Int) : Int := lv V * 2
def pr (V : Int) : Int := V * (V - 1) / 2
def nd (V S : Int) : Int := vn V + S * sn V

theorem vcases {V : Int} (h1 : 1 ≤ V) (h2 : V ≤ 16) : V = 1 ∨ V = 2 ∨ V = 3 ∨ V = 4 ∨ V = 5 ∨ V = 6 ∨ V = 7 ∨ V = 8 ∨ V = 9 ∨ V = 10 ∨ V = 11 ∨ V = 12 ∨ V = 13 ∨ V = 14 ∨ V = 15 ∨ V = 16 := by omega

structure Sizes (V S : Int) : Prop where
  l1 : 1 ≤ lv V
  l2 : lv V ≤ 5
  vn1 : 1 ≤ vn V
  vn2 : vn V ≤ 80
  vv : V ≤ vn V
  sn1 : 2 ≤ sn V
  sn2 : sn V ≤ 10
  pr1 : 0 ≤ pr V
  pr2 : pr V ≤ 120
  ss1 : 0 ≤ S * sn V
  ss2 : S * sn V ≤ 480
  nd1 : 1 ≤ nd V S
  nd2 : nd V S ≤ 560

theorem sizes {V S T : Int} (h : Rt V S T) : Sizes V S := by
  obtain ⟨v1, v2, s1, s2, _, _⟩ := h
  have hl := lv_bd V
  have hs : 2 ≤ sn V ∧ sn V ≤ 10 := by unfold sn; omega
  have hv : 1 ≤ vn V ∧ vn V ≤ 80 ∧ V ≤ vn V ∧ 0 ≤ pr V ∧ pr V ≤ 120 := by
    rcases vcases v1 v2 with h | h | h | h | h | h | h | h | h | h | h | h | h | h | h | h <;> subst h <;> decide
  have m1 : 0 ≤ S * sn V := Int.mul_nonneg s1 (by omega)
  have m2 : S * sn V ≤ 48 * sn V := Int.mul_le_mul_of_nonneg_right s2 (by omega)
  have e : nd V S = vn V + S * sn V := rfl
  exact ⟨hl.1, hl.2, hv.1, hv.2.1, hv.2.2.1, hs.1, hs.2, hv.2.2.2.1, hv.2.2.2.2, m1, by omega, by omega, by omega⟩

/-- A place in rows of as many columns. -/
def pl (r R c C : Int) : Int := if r < 0 ∨ R ≤ r ∨ c < 0 ∨ C ≤ c then -1 else r * C + c
/-- A cell of a part. -/
def cl (size off x : Int) : Int := if x < 0 ∨ size ≤ x then -1 else x + off

def o3 (S T : Int) : Int := T + 1 + S * 7
def o4 (V S T : Int) : Int := T + 1 + S * 7 + vn V
def o5 (V S T : Int) : Int := T + 1 + S * 7 + vn V + pr V
def cn (V S T : Int) : Int := T + 1 + S * 7 + vn V + pr V + nd V S * 7

theorem pl_bd {r R c C : Int} (h1 : R ≤ 600) (h2 : C ≤ 600) (h3 : 0 ≤ C) : -1 ≤ pl r R c C ∧ pl r R c C ≤ 360000 := by
  unfold pl
  split
  · omega
  · rename_i h
    have a1 : 0 ≤ r := by omega
    have a2 : r ≤ 600 := by omega
    have b1 : 0 ≤ r * C := Int.mul_nonneg a1 h3
    have b2 : r * C ≤ 599 * C := Int.mul_le_mul_of_nonneg_right (by omega) h3
    omega
theorem pl_no {r R c C : Int} (h : r < 0 ∨ R ≤ r ∨ c < 0 ∨ C ≤ c) : pl r R c C = -1 := if_pos h
theorem pl_yes {r R c C : Int} (h1 : 0 ≤ r) (h2 : r < R) (h3 : 0 ≤ c) (h4 : c < C) : pl r R c C = r * C + c := if_neg (by omega)
theorem cl_no {s o x : Int} (h : x < 0 ∨ s ≤ x) : cl s o x = -1 := if_pos h
theorem cl_yes {s o x : Int} (h1 : 0 ≤ x) (h2 : x < s) : cl s o x = x + o := if_neg (by omega)

/-- What each call answers of a right lay. -/
def vertexF (V level v : Int) : Int := pl level (lv V) v V + 1
def arcF (V S slot level side : Int) : Int := if pl slot S (pl level (lv V) side 2) (sn V) = -1 then 0 else vn V + pl slot S (pl level (lv V) side 2) (sn V) + 1
def stateF (T a : Int) : Int := if 1 ≤ a ∧ a ≤ T then a - 1 else -1
def slotF (S T slot which : Int) : Int := if 0 ≤ slot ∧ slot < S ∧ 0 ≤ which ∧ which < 7 then T + 1 + slot * 7 + which else -1
def sideF (first side : Int) : Int := if side < 0 ∨ 2 ≤ side then -1 else first + side
def headF (V S T v level : Int) : Int := cl (vn V) (o3 S T) (pl v V level (lv V))
def ahF (V a : Int) : Int := a * (2 * V - a - 1) / 2
def edgeF (V S T a b : Int) : Int := if min a b < 0 ∨ a = b ∨ V ≤ max a b then -1 else cl (pr V) (o4 V S T) (ahF V (min a b) + max a b - min a b - 1)
def fieldF (V S T x f : Int) : Int := if 1 ≤ x ∧ x ≤ nd V S ∧ 0 ≤ f ∧ f < 7 then o5 V S T + (x - 1) * 7 + f else -1

theorem state_cl {T a : Int} : cl T 0 (a - 1) = stateF T a := by unfold cl stateF; split <;> split <;> omega
theorem slot_cl {S T slot which : Int} : cl (S * 7) (T + 1) (pl slot S which 7) = slotF S T slot which := by
  unfold cl slotF pl; split <;> split <;> (try split) <;> omega
theorem field_cl {V S T x f : Int} : cl (nd V S * 7) (o5 V S T) (pl (x - 1) (nd V S) f 7) = fieldF V S T x f := by
  unfold cl fieldF pl; split <;> split <;> (try split) <;> omega

/-- The list of a vertex at a level. -/
theorem head_spec {V S T : Int} (v l : Int) :
    (0 ≤ v ∧ v < V ∧ 0 ≤ l ∧ l < lv V → headF V S T v l = o3 S T + v * lv V + l ∧ 0 ≤ v * lv V + l ∧ v * lv V + l < vn V) ∧ (¬ (0 ≤ v ∧ v < V ∧ 0 ≤ l ∧ l < lv V) → headF V S T v l = -1) := by
  refine ⟨fun ⟨a, b, c, d⟩ => ?_, fun hn => ?_⟩
  · have hb : 0 ≤ v * lv V + l ∧ v * lv V + l < vn V := by
      have := (lv_bd V).1
      have e : v * lv V ≤ (V - 1) * lv V := Int.mul_le_mul_of_nonneg_right (by omega) (by omega)
      have e2 : 0 ≤ v * lv V := Int.mul_nonneg a (by omega)
      have e3 : (V - 1) * lv V = vn V - lv V := by unfold vn; rw [Int.sub_mul, Int.mul_comm V]; omega
      omega
    refine ⟨?_, hb⟩
    unfold headF
    rw [pl_yes a b c d, cl_yes hb.1 hb.2]; omega
  · unfold headF
    rw [pl_no (by omega), cl_no (by omega)]
theorem head_inj {V : Int} (h1 : 1 ≤ V) (h2 : V ≤ 16) {v l v' l' : Int} (a : 0 ≤ l) (b : l < lv V) (a' : 0 ≤ l') (b' : l' < lv V) (e : v * lv V + l = v' * lv V + l') : v = v' ∧ l = l' := by
  rcases vcases h1 h2 with h | h | h | h | h | h | h | h | h | h | h | h | h | h | h | h <;> subst h <;> simp only [lv] at * <;> simp at * <;> omega

/-- The edges of the lesser vertices stand ahead. -/
theorem ah_step {V a : Int} : ahF V (a + 1) = ahF V a + (V - 1 - a) := by
  unfold ahF
  have e : (a + 1) * (2 * V - (a + 1) - 1) = a * (2 * V - a - 1) + 2 * (V - 1 - a) := by
    simp only [Int.add_mul, Int.mul_sub, Int.mul_add]; omega
  rw [e]; omega
theorem ah_zero (V : Int) : ahF V 0 = 0 := by unfold ahF; simp
theorem ah_last (V : Int) : ahF V (V - 1) = pr V := by
  unfold ahF pr
  rw [show 2 * V - (V - 1) - 1 = V by omega, Int.mul_comm]
theorem ah_grows (V : Int) (a : Int) (n : Nat) (h : a + n ≤ V - 1) : ahF V a + (if n = 0 then 0 else V - 1 - a) ≤ ahF V (a + n) := by
  induction n with
  | zero => simp
  | succ n ih =>
    have i := ih (by omega)
    have e := ah_step (V := V) (a := a + n)
    have : (a + ((n + 1 : Nat) : Int)) = a + n + 1 := by omega
    rw [this, e]
    by_cases hn : n = 0
    · subst hn; simp at *
    · rw [if_neg hn] at i; rw [if_neg (by omega)]; omega
theorem ah_le {V a c : Int} (h : a < c) (hc : c ≤ V - 1) : ahF V a + (V - 1 - a) ≤ ahF V c := by
  have := ah_grows V a (c - a).toNat (by omega)
  rw [if_neg (by omega)] at this
  have e : a + ((c - a).toNat : Int) = c := by omega
  rw [e] at this; exact this
theorem ah_nonneg {V a : Int} (h : 0 ≤ a) (ha : a ≤ V - 1) : 0 ≤ ahF V a := by
  rcases Int.lt_or_eq_of_le h with h | h
  · have := ah_le (V := V) h ha; rw [ah_zero] at this; omega
  · subst h; rw [ah_zero]; omega
theorem ah_end {V a : Int} (ha : a ≤ V - 2) : ahF V a + (V - 1 - a) ≤ pr V := by
  have := ah_le (V := V) (a := a) (c := V - 1) (by omega) (by omega); rw [ah_last] at this; exact this

theorem edge_spec {V S T : Int} (a b : Int) :
    (0 ≤ min a b ∧ a ≠ b ∧ max a b < V → edgeF V S T a b = o4 V S T + (ahF V (min a b) + max a b - min a b - 1) ∧ 0 ≤ ahF V (min a b) + max a b - min a b - 1 ∧ ahF V (min a b) + max a b - min a b - 1 < pr V) ∧ (¬ (0 ≤ min a b ∧ a ≠ b ∧ max a b < V) → edgeF V S T a b = -1) := by
  refine ⟨fun ⟨h1, h2, h3⟩ => ?_, fun hn => if_pos (by omega)⟩
  have hb : 0 ≤ ahF V (min a b) + max a b - min a b - 1 ∧ ahF V (min a b) + max a b - min a b - 1 < pr V := by
    have e1 := ah_nonneg (V := V) (a := min a b) h1 (by omega)
    have e2 := ah_end (V := V) (a := min a b) (by omega)
    omega
  refine ⟨?_, hb⟩
  unfold edgeF
  rw [if_neg (by omega), cl_yes hb.1 hb.2]; omega
theorem edge_inj {V S T a b c d : Int} (h : 0 ≤ edgeF V S T a b) (e : edgeF V S T a b = edgeF V S T c d) : min a b = min c d := by
  by_cases h1 : 0 ≤ min a b ∧ a ≠ b ∧ max a b < V
  · by_cases h2 : 0 ≤ min c d ∧ c ≠ d ∧ max c d < V
    · rw [((edge_spec (V := V) (S := S) (T := T) a b).1 h1).1, ((edge_spec (V := V) (S := S) (T := T) c d).1 h2).1] at e
      rcases Int.lt_trichotomy (min a b) (min c d) with l | l | l
      · have := ah_le (V := V) l (by omega); omega
      · exact l
      · have := ah_le (V := V) l (by omega); omega
    · rw [(edge_spec (V := V) (S := S) (T := T) c d).2 h2] at e; omega
  · rw [(edge_spec (V := V) (S := S) (T := T) a b).2 h1] at h; omega

/-- What the node x is. -/
def nodeArc (V S x : Int) : Bool := decide (1 ≤ x ∧ x ≤ nd V S ∧ vn V ≤ x - 1)
end Go.Proofs.Ytipjbgkfhkidkaa
