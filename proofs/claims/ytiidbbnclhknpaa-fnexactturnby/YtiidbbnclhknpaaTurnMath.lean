/-
  Ways that are turned: what the specification reckons, as numbers; how long they are. No Go text in sight.
-/
import Derived.Test.YtiidbbnclhknpaaSpotBook
import Derived.Test.YtiidbbnclhknpaaRootMath
namespace Go.Proofs.Ytiidbbnclhknpaa
namespace SI
set_option linter.unusedVariables false
def tyL (u r a : Int) : Int := SM.mulLo u u (siL (2 * a + 64800000)) (siH (2 * a + 64800000)) + SM.mulLo r r (siL (2 * a)) (siH (2 * a))
def tyH (u r a : Int) : Int := SM.mulHi u u (siL (2 * a + 64800000)) (siH (2 * a + 64800000)) + SM.mulHi r r (siL (2 * a)) (siH (2 * a))
def txL (u r a : Int) : Int := SM.mulLo r r (siL (2 * a + 64800000)) (siH (2 * a + 64800000)) - SM.mulHi u u (siL (2 * a)) (siH (2 * a))
def txH (u r a : Int) : Int := SM.mulHi r r (siL (2 * a + 64800000)) (siH (2 * a + 64800000)) - SM.mulLo u u (siL (2 * a)) (siH (2 * a))
/-- The way back turned is turned back. -/
theorem ty_neg (u r a : Int) : tyL (-u) (-r) a = -tyH u r a ∧ tyH (-u) (-r) a = -tyL u r a := by
  unfold tyL tyH
  rw [SM.mulLo_neg, SM.mulLo_neg, SM.mulHi_neg, SM.mulHi_neg]
  omega
theorem tx_neg (u r a : Int) : txL (-u) (-r) a = -txH u r a ∧ txH (-u) (-r) a = -txL u r a := by
  unfold txL txH
  rw [SM.mulLo_neg, SM.mulHi_neg, SM.mulHi_neg, SM.mulLo_neg]
  omega
theorem si_more2 (a : Int) : (siL (2 * (a + 129600000)) = siL (2 * a) ∧ siH (2 * (a + 129600000)) = siH (2 * a)) ∧ siL (2 * (a + 129600000) + 64800000) = siL (2 * a + 64800000) ∧ siH (2 * (a + 129600000) + 64800000) = siH (2 * a + 64800000) := by
  have e1 : 2 * (a + 129600000) = 2 * a + 259200000 := by omega
  have e2 : 2 * a + 259200000 + 64800000 = 2 * a + 64800000 + 259200000 := by omega
  rw [e1, e2]
  exact ⟨si_turn _, si_turn _⟩
/-- A whole turn more changes nothing. -/
theorem ty_turn (u r a : Int) : tyL u r (a + 129600000) = tyL u r a ∧ tyH u r (a + 129600000) = tyH u r a ∧ txL u r (a + 129600000) = txL u r a ∧ txH u r (a + 129600000) = txH u r a := by
  obtain ⟨⟨e1, e2⟩, e3, e4⟩ := si_more2 a
  unfold tyL tyH txL txH
  rw [e1, e2, e3, e4]
  exact ⟨rfl, rfl, rfl, rfl⟩
theorem mul_one (u : Int) : SM.mulLo u u 1000000000 1000000000 = u ∧ SM.mulHi u u 1000000000 1000000000 = u := by
  unfold SM.mulLo SM.mulHi NM.down NM.up
  omega
theorem mul_nil (u : Int) : SM.mulLo u u 0 0 = 0 ∧ SM.mulHi u u 0 0 = 0 := by
  unfold SM.mulLo SM.mulHi
  simp only [Int.mul_zero]
  decide
/-- Turned by nothing, or a quarter, it is exact. -/
theorem turn_nil (u r : Int) : tyL u r 0 = u ∧ tyH u r 0 = u ∧ txL u r 0 = r ∧ txH u r 0 = r := by
  have e1 : (2 : Int) * 0 + 64800000 = 64800000 := by decide
  have e2 : (2 : Int) * 0 = 0 := by decide
  unfold tyL tyH txL txH
  rw [e1, e2, ex3.1, ex3.2, ex0.1, ex0.2, (mul_one u).1, (mul_one u).2, (mul_one r).1, (mul_one r).2, (mul_nil u).1, (mul_nil u).2, (mul_nil r).1, (mul_nil r).2]
  omega
theorem turn_quart (u r : Int) : tyL u r 32400000 = r ∧ tyH u r 32400000 = r ∧ txL u r 32400000 = -u ∧ txH u r 32400000 = -u := by
  have e1 : (2 : Int) * 32400000 + 64800000 = 129600000 := by decide
  have e2 : (2 : Int) * 32400000 = 64800000 := by decide
  unfold tyL tyH txL txH
  rw [e1, e2, ex3.1, ex3.2, ex6.1, ex6.2, (mul_one u).1, (mul_one u).2, (mul_one r).1, (mul_one r).2, (mul_nil u).1, (mul_nil u).2, (mul_nil r).1, (mul_nil r).2]
  omega
/-- A product with a number of at most half of one. -/
theorem mul_half {u L H : Int} (u0 : -500000000 ≤ u) (u1 : u ≤ 500000000) (f : Fit L H) : -500000000 ≤ SM.mulLo u u L H ∧ SM.mulLo u u L H ≤ SM.mulHi u u L H ∧ SM.mulHi u u L H ≤ 500000000 := by
  obtain ⟨f1, f2, f3, _⟩ := f
  have bd : ∀ x : Int, -1000000000 ≤ x → x ≤ 1000000000 → -500000000000000000 ≤ u * x ∧ u * x ≤ 500000000000000000 := fun x x0 x1 => by
    have := SM.mul_bd (x := u) (y := x) (A := 500000000) (B := 1000000000) (by omega) (by omega) (by omega) (by omega)
    omega
  obtain ⟨b1, b2⟩ := bd L f1 (by omega)
  obtain ⟨b3, b4⟩ := bd H (by omega) f3
  unfold SM.mulLo SM.mulHi NM.down NM.up
  generalize u * L = p at *
  generalize u * H = q at *
  omega
theorem turn_bd {u r : Int} (a : Int) (u0 : -500000000 ≤ u) (u1 : u ≤ 500000000) (r0 : -500000000 ≤ r) (r1 : r ≤ 500000000) :
    (-1000000000 ≤ tyL u r a ∧ tyL u r a ≤ tyH u r a ∧ tyH u r a ≤ 1000000000) ∧ -1000000000 ≤ txL u r a ∧ txL u r a ≤ txH u r a ∧ txH u r a ≤ 1000000000 := by
  have a1 := mul_half u0 u1 (si_enc (2 * a)).2
  have a2 := mul_half u0 u1 (si_enc (2 * a + 64800000)).2
  have a3 := mul_half r0 r1 (si_enc (2 * a)).2
  have a4 := mul_half r0 r1 (si_enc (2 * a + 64800000)).2
  unfold tyL tyH txL txH
  omega
/-! ### how long it is -/
theorem ci_encF (h : Int) : In (siL (h + 64800000)) (siH (h + 64800000)) (C h) (1 / 90) := by
  obtain ⟨l, u⟩ := si_encF (h + 64800000)
  obtain ⟨q1, q2⟩ := S_quart h
  unfold eps at q1 q2
  generalize S (h + 64800000) = v at *
  generalize C h = w at *
  exact ⟨by grind, by grind⟩
theorem num_in (u : Int) : In u u ((u : Rat) / 1000000000) 0 := ⟨by grind, by grind⟩
theorem num_bd {u : Int} (u0 : -500000000 ≤ u) (u1 : u ≤ 500000000) : (u : Rat) / 1000000000 ≤ 1 / 2 ∧ -(1 / 2) ≤ (u : Rat) / 1000000000 := by
  have a := cast_ge u1
  have b := cast_ge u0
  have c1 : ((500000000 : Int) : Rat) = 500000000 := rfl
  have c2 : ((-500000000 : Int) : Rat) = -500000000 := rfl
  rw [c1] at a
  rw [c2] at b
  constructor <;> grind
theorem half_mul {v x : Rat} (hv : v ≤ 1 / 2 ∧ -(1 / 2) ≤ v) (hx : x ≤ 1 ∧ -1 ≤ x) : v * x ≤ 1 / 2 ∧ -(1 / 2) ≤ v * x := by
  rcases Rat.le_total (a := 0) (b := v) with h | h
  · have a := TS.mul_le hx.1 h
    have b := TS.mul_le hx.2 h
    constructor <;> grind
  · have a := TS.mul_le hx.1 (show 0 ≤ -v by grind)
    have b := TS.mul_le hx.2 (show 0 ≤ -v by grind)
    constructor <;> grind
theorem turn_in {u r : Int} (a : Int) (u0 : -500000000 ≤ u) (u1 : u ≤ 500000000) (r0 : -500000000 ≤ r) (r1 : r ≤ 500000000) :
    In (tyL u r a) (tyH u r a) ((u : Rat) / 1000000000 * C (2 * a) + (r : Rat) / 1000000000 * S (2 * a)) (1 / 25) ∧ In (txL u r a) (txH u r a) ((r : Rat) / 1000000000 * C (2 * a) - (u : Rat) / 1000000000 * S (2 * a)) (1 / 25) := by
  have hu := num_bd u0 u1
  have hr := num_bd r0 r1
  have ic := ci_encF (2 * a)
  have is := (si_encF (2 * a)).wide (d' := 1 / 900) (by grind)
  have fc := (si_enc (2 * a + 64800000)).2
  have fs := (si_enc (2 * a)).2
  have sv := S_bd (2 * a)
  have cv := C_bd (2 * a)
  have uc := mul_enc ((num_in u).wide (d' := 1 / 90) (by grind)) ic (Int.le_refl _) fc.b ⟨by grind, by grind⟩ cv (by grind) (by grind)
  have rc := mul_enc ((num_in r).wide (d' := 1 / 90) (by grind)) ic (Int.le_refl _) fc.b ⟨by grind, by grind⟩ cv (by grind) (by grind)
  have us := mul_enc ((num_in u).wide (d' := 1 / 900) (by grind)) is (Int.le_refl _) fs.b ⟨by grind, by grind⟩ sv (by grind) (by grind)
  have rs := mul_enc ((num_in r).wide (d' := 1 / 900) (by grind)) is (Int.le_refl _) fs.b ⟨by grind, by grind⟩ sv (by grind) (by grind)
  unfold tyL tyH txL txH
  generalize SM.mulLo u u (siL (2 * a + 64800000)) (siH (2 * a + 64800000)) = a1 at *
  generalize SM.mulHi u u (siL (2 * a + 64800000)) (siH (2 * a + 64800000)) = a2 at *
  generalize SM.mulLo r r (siL (2 * a + 64800000)) (siH (2 * a + 64800000)) = b1 at *
  generalize SM.mulHi r r (siL (2 * a + 64800000)) (siH (2 * a + 64800000)) = b2 at *
  generalize SM.mulLo u u (siL (2 * a)) (siH (2 * a)) = c1 at *
  generalize SM.mulHi u u (siL (2 * a)) (siH (2 * a)) = c2 at *
  generalize SM.mulLo r r (siL (2 * a)) (siH (2 * a)) = d1 at *
  generalize SM.mulHi r r (siL (2 * a)) (siH (2 * a)) = d2 at *
  have e1 : ((b1 - c2 : Int) : Rat) = (b1 : Rat) - (c2 : Rat) := Rat.intCast_sub _ _
  have e2 : ((b2 - c1 : Int) : Rat) = (b2 : Rat) - (c1 : Rat) := Rat.intCast_sub _ _
  exact ⟨⟨by rw [cast_add]; grind, by rw [cast_add]; grind⟩, ⟨by rw [e1]; grind, by rw [e2]; grind⟩⟩
/-- Both squares together have those of the way in them. -/
theorem turn_long {u r : Int} (a : Int) (u0 : -500000000 ≤ u) (u1 : u ≤ 500000000) (r0 : -500000000 ≤ r) (r1 : r ≤ 500000000) :
    SM.mulLo (tyL u r a) (tyH u r a) (tyL u r a) (tyH u r a) + SM.mulLo (txL u r a) (txH u r a) (txL u r a) (txH u r a) ≤ NM.up (u * u + r * r) 1000000000 ∧
    NM.down (u * u + r * r) 1000000000 ≤ SM.mulHi (tyL u r a) (tyH u r a) (tyL u r a) (tyH u r a) + SM.mulHi (txL u r a) (txH u r a) (txL u r a) (txH u r a) := by
  obtain ⟨iy, ix⟩ := turn_in a u0 u1 r0 r1
  obtain ⟨⟨_, ly, _⟩, _, lx, _⟩ := turn_bd a u0 u1 r0 r1
  have hu := num_bd u0 u1
  have hr := num_bd r0 r1
  have sv := S_bd (2 * a)
  have cv := C_bd (2 * a)
  have m1 := half_mul hu cv
  have m2 := half_mul hr sv
  have m3 := half_mul hr cv
  have m4 := half_mul hu sv
  have py := mul_enc iy iy ly ly ⟨by grind, by grind⟩ ⟨by grind, by grind⟩ (by grind) (by grind)
  have px := mul_enc ix ix lx lx ⟨by grind, by grind⟩ ⟨by grind, by grind⟩ (by grind) (by grind)
  have len := SC_len (2 * a)
  have d := down_le (u * u + r * r)
  have p := up_ge (u * u + r * r)
  have en : ((u * u + r * r : Int) : Rat) = (u : Rat) * (u : Rat) + (r : Rat) * (r : Rat) := by rw [cast_add, Rat.intCast_mul, Rat.intCast_mul]
  rw [en] at d p
  generalize SM.mulLo (tyL u r a) (tyH u r a) (tyL u r a) (tyH u r a) = a1 at *
  generalize SM.mulHi (tyL u r a) (tyH u r a) (tyL u r a) (tyH u r a) = a2 at *
  generalize SM.mulLo (txL u r a) (txH u r a) (txL u r a) (txH u r a) = b1 at *
  generalize SM.mulHi (txL u r a) (txH u r a) (txL u r a) (txH u r a) = b2 at *
  generalize NM.up (u * u + r * r) 1000000000 = hi at *
  generalize NM.down (u * u + r * r) 1000000000 = lo at *
  clear iy ix sv cv m1 m2 m3 m4 hu hr
  generalize C (2 * a) = x at *
  generalize S (2 * a) = y at *
  have sq : 1000000000 * ((((u : Rat) / 1000000000) * x + ((r : Rat) / 1000000000) * y) * (((u : Rat) / 1000000000) * x + ((r : Rat) / 1000000000) * y)) + 1000000000 * ((((r : Rat) / 1000000000) * x - ((u : Rat) / 1000000000) * y) * (((r : Rat) / 1000000000) * x - ((u : Rat) / 1000000000) * y)) = ((u : Rat) * u + (r : Rat) * r) / 1000000000 := by grind
  exact ⟨le_of_near (e := 1 / 4) (by rw [cast_add]; grind) (by grind), le_of_near (e := 1 / 4) (by rw [cast_add]; grind) (by grind)⟩
end SI
end Go.Proofs.Ytiidbbnclhknpaa
