/- The least number that Frame and all Periods divide: they divide it, and it divides what they all divide. On lists alone. -/
import Derived.Test.YtgaegggiehhcpabDoorFrm3
namespace Go.Proofs.YtgaegggiehhcpabDoor
open Go.RowKit

theorem quo_lcm {x y : Int} (x0 : 0 ≤ x) (y0 : 0 ≤ y) : x / gcdI x y * y = ((Nat.lcm x.toNat y.toNat : Nat) : Int) := by
  obtain ⟨a, rfl⟩ := Int.eq_ofNat_of_zero_le x0
  obtain ⟨b, rfl⟩ := Int.eq_ofNat_of_zero_le y0
  unfold gcdI
  rw [Int.toNat_natCast, Int.toNat_natCast, ← Int.natCast_ediv, ← Int.natCast_mul]
  have : a / Nat.gcd a b * b = Nat.lcm a b := Nat.div_mul_right_comm (Nat.gcd_dvd_left a b) b
  rw [this]
theorem lcmV_lcm {x y : Int} (x0 : 1 ≤ x) (y0 : 1 ≤ y) (h : lcmE x y = 0) : lcmV x y = ((Nat.lcm x.toNat y.toNat : Nat) : Int) := by
  unfold lcmE at h
  unfold lcmV
  have hz : ¬ (x = 0 ∨ y = 0) := by omega
  rw [if_neg hz] at h ⊢
  unfold mulE at h
  unfold mulV
  have e := quo_lcm (show 0 ≤ x by omega) (show 0 ≤ y by omega)
  generalize x / gcdI x y * y = q at *
  by_cases hm : q < 18446744073709551616
  · rw [if_pos hm]; exact e
  · rw [if_neg hm] at h; omega
theorem lcm_left {x y : Int} (x0 : 1 ≤ x) (y0 : 1 ≤ y) (h : lcmE x y = 0) : x ∣ lcmV x y := by
  rw [lcmV_lcm x0 y0 h]
  have := Int.natCast_dvd_natCast.2 (Nat.dvd_lcm_left x.toNat y.toNat)
  rwa [Int.toNat_of_nonneg (by omega)] at this
theorem lcm_right {x y : Int} (x0 : 1 ≤ x) (y0 : 1 ≤ y) (h : lcmE x y = 0) : y ∣ lcmV x y := by
  rw [lcmV_lcm x0 y0 h]
  have := Int.natCast_dvd_natCast.2 (Nat.dvd_lcm_right x.toNat y.toNat)
  rwa [Int.toNat_of_nonneg (show 0 ≤ y by omega)] at this
theorem lcm_least {x y m : Int} (x0 : 1 ≤ x) (y0 : 1 ≤ y) (h : lcmE x y = 0) (m0 : 0 ≤ m) (hx : x ∣ m) (hy : y ∣ m) : lcmV x y ∣ m := by
  rw [lcmV_lcm x0 y0 h]
  obtain ⟨k, rfl⟩ := Int.eq_ofNat_of_zero_le m0
  obtain ⟨a, rfl⟩ := Int.eq_ofNat_of_zero_le (show 0 ≤ x by omega)
  obtain ⟨b, rfl⟩ := Int.eq_ofNat_of_zero_le (show 0 ≤ y by omega)
  exact Int.natCast_dvd_natCast.2 (Nat.lcm_dvd (Int.natCast_dvd_natCast.1 hx) (Int.natCast_dvd_natCast.1 hy))
theorem hypT_dvd {ts : List TaskV} (hp : ∀ t ∈ ts, 1 ≤ t.period) {x : Int} (x0 : 1 ≤ x) (h : (hypT x ts).2 = 0) : x ∣ (hypT x ts).1 ∧ (∀ t ∈ ts, t.period ∣ (hypT x ts).1) ∧ ∀ m, 0 ≤ m → x ∣ m → (∀ t ∈ ts, t.period ∣ m) → (hypT x ts).1 ∣ m := by
  induction ts generalizing x with
  | nil => exact ⟨Int.dvd_refl _, fun t ht => by simp at ht, fun m _ hx _ => hx⟩
  | cons t ts ih =>
    rw [hypT_cons] at h ⊢
    by_cases he : lcmE x t.period = 0
    · rw [if_pos he] at h ⊢
      have p0 := hp t (by simp)
      have f := lcm_fits x0 p0 he
      obtain ⟨i1, i2, i3⟩ := ih (fun u hu => hp u (by simp [hu])) f.1 h
      refine ⟨Int.dvd_trans (lcm_left x0 p0 he) i1, fun u hu => ?_, fun m m0 hx hm => i3 m m0 (lcm_least x0 p0 he m0 hx (hm t (by simp))) fun u hu => hm u (by simp [hu])⟩
      rcases List.mem_cons.1 hu with rfl | h'
      · exact Int.dvd_trans (lcm_right x0 p0 he) i1
      · exact i2 u h'
    · rw [if_neg he] at h; exact absurd h he
theorem hypP_dvd {ps : List PartV} (hp : ∀ p ∈ ps, ∀ t ∈ p.tasks, 1 ≤ t.period) {x : Int} (x0 : 1 ≤ x) (x1 : x ≤ 18446744073709551615) (h : (hypP x ps).2 = 0) : 1 ≤ (hypP x ps).1 ∧ (hypP x ps).1 ≤ 18446744073709551615 ∧ x ∣ (hypP x ps).1 ∧ (∀ p ∈ ps, ∀ t ∈ p.tasks, t.period ∣ (hypP x ps).1) ∧ ∀ m, 0 ≤ m → x ∣ m → (∀ p ∈ ps, ∀ t ∈ p.tasks, t.period ∣ m) → (hypP x ps).1 ∣ m := by
  induction ps generalizing x with
  | nil => exact ⟨x0, x1, Int.dvd_refl _, fun t ht => by simp at ht, fun m _ hx _ => hx⟩
  | cons p ps ih =>
    rw [hypP_cons] at h ⊢
    by_cases he : (hypT x p.tasks).2 = 0
    · rw [if_pos he] at h ⊢
      have pp := hp p (by simp)
      have f := hypT_fits pp x0 x1 he
      obtain ⟨j1, j2, j3⟩ := hypT_dvd pp x0 he
      obtain ⟨b0, b1, i1, i2, i3⟩ := ih (fun u hu => hp u (by simp [hu])) f.1 f.2 h
      refine ⟨b0, b1, Int.dvd_trans j1 i1, fun u hu t ht => ?_, fun m m0 hx hm => i3 m m0 (j3 m m0 hx (hm p (by simp))) fun u hu => hm u (by simp [hu])⟩
      rcases List.mem_cons.1 hu with rfl | h'
      · exact Int.dvd_trans (j2 t ht) i1
      · exact i2 u h' t ht
    · rw [if_neg he] at h; exact absurd h he
/-- Hyper where it has no error. -/
structure HypOK (C : ConfV) (h : Int) : Prop where
  fine : Fine C
  h0 : 1 ≤ h
  h1 : h ≤ 18446744073709551615
  fr : h % C.frame = 0
  per : ∀ i, i < C.parts.length → ∀ j, j < (partAt C.parts i).tasks.length → h % (taskAt (partAt C.parts i).tasks j).period = 0
  least : ∀ d, 2 ≤ d → h % d = 0 → h / d % C.frame = 0 → (∀ i, i < C.parts.length → ∀ j, j < (partAt C.parts i).tasks.length → h / d % (taskAt (partAt C.parts i).tasks j).period = 0) → False
theorem mem_part {C : ConfV} {p : PartV} (h : p ∈ C.parts) : ∃ i, i < C.parts.length ∧ partAt C.parts i = p := by
  obtain ⟨i, hi, e⟩ := List.getElem_of_mem h
  exact ⟨i, hi, partAt_of (by rw [← e]; exact List.getElem?_eq_getElem hi)⟩
theorem mem_task {ts : List TaskV} {t : TaskV} (h : t ∈ ts) : ∃ i, i < ts.length ∧ taskAt ts i = t := by
  obtain ⟨i, hi, e⟩ := List.getElem_of_mem h
  exact ⟨i, hi, taskAt_of (by rw [← e]; exact List.getElem?_eq_getElem hi)⟩
theorem partAt_in {ps : List PartV} {i : Nat} (h : i < ps.length) : partAt ps i ∈ ps := List.mem_of_getElem? (partAt_mem h)
theorem taskAt_in {ps : List TaskV} {i : Nat} (h : i < ps.length) : taskAt ps i ∈ ps := List.mem_of_getElem? (taskAt_mem h)
theorem hyper_ok {C : ConfV} (h : hyE C = 0) : HypOK C (hyV C) := by
  unfold hyE at h
  by_cases hc : checkN C = 0
  · rw [if_pos hc] at h
    have F := fine_of hc
    have hv : hyV C = (hypP C.frame C.parts).1 := if_pos hc
    rw [hv]
    have pp : ∀ p ∈ C.parts, ∀ t ∈ p.tasks, 1 ≤ t.period := by
      intro p hp t ht
      obtain ⟨i, hi, rfl⟩ := mem_part hp
      exact F.per2 i hi t ht
    obtain ⟨b0, b1, d1, d2, d3⟩ := hypP_dvd pp F.f0 (by have := F.f1; omega) h
    generalize (hypP C.frame C.parts).1 = H at *
    refine ⟨F, b0, b1, Int.emod_eq_zero_of_dvd d1, fun i hi j hj => Int.emod_eq_zero_of_dvd (d2 _ (partAt_in hi) _ (taskAt_in hj)), fun d hd e1 e2 e3 => ?_⟩
    have q0 : 0 ≤ H / d := Int.ediv_nonneg (by omega) (by omega)
    have hdv : H ∣ H / d := d3 _ q0 (Int.dvd_of_emod_eq_zero e2) fun p hp t ht => by
      obtain ⟨i, hi, rfl⟩ := mem_part hp
      obtain ⟨j, hj, rfl⟩ := mem_task ht
      exact Int.dvd_of_emod_eq_zero (e3 i hi j hj)
    have hdd : d ∣ H := Int.dvd_of_emod_eq_zero e1
    have e4 : H / d * d = H := Int.ediv_mul_cancel hdd
    have q1 : 0 < H / d := by
      rcases Int.lt_or_eq_of_le q0 with h' | h'
      · exact h'
      · rw [← h'] at e4; omega
    have q2 := Int.le_of_dvd q1 hdv
    have q3 : 2 * (H / d) ≤ H / d * d := by rw [Int.mul_comm]; exact Int.mul_le_mul_of_nonneg_left hd q0
    omega
  · rw [if_neg hc] at h; omega
theorem hyper_no {C : ConfV} (h : hyE C ≠ 0) : hyV C = 0 := by
  unfold hyE at h
  unfold hyV
  by_cases hc : checkN C = 0
  · rw [if_pos hc] at h ⊢; exact hypP_err h
  · rw [if_neg hc]
#print axioms hyper_ok
end Go.Proofs.YtgaegggiehhcpabDoor
