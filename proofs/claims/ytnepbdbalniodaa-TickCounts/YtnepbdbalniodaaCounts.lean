/- The walk of the law TickCounts: for every limit and every row of numbers it answers true and turns nothing that was there. -/
import Derived.Test.YtnepbdbalniodaaAwake
import Derived.Deep.DeepFit
import Derived.Deep.RegionWith
import Derived.Deep.DrawnRows
namespace Go.Proofs.Ytnepbdbalniodaa
open Go.RowKit Go.Lib
attribute [local go_sem] alloc_drewN setCell_drewN
attribute [local go_sem ↓] Go.wp_at_zero Go.wp_at_succ

set_option maxRecDepth 100000 in
set_option maxHeartbeats 400000 in
theorem counts_no (l : Int) (h : l < 0) (a : Option Addr) (len cap : Nat) (w : World) :
    Calls Try.prog 5 #[.int .i64 l, .slice a len cap] w fun e w' => e = .returned (.bool true) ∧ Below w.heap.size w w' := by
  go_enter Try.func5, Try.ntmps5
  go_wp2_with (first | (go_at_call 20; refine (new_no _ h _).mono ?_; rintro e w' ⟨rfl, rfl⟩) | (go_at_call 21; refine (rnew_no _ h _).mono ?_; rintro e w' ⟨rfl, rfl⟩) | (go_at_call 16; refine (num_any _ _).mono ?_; rintro e w' ⟨rfl, rfl⟩) | (go_at_call 19; refine (awake_any _).mono ?_; rintro e w1 ⟨rfl, _, hb⟩))
  go_ret
  exact ⟨rfl, hb⟩

set_option maxRecDepth 100000 in
set_option maxHeartbeats 400000 in
theorem counts_none (l : Int) (h : 0 ≤ l) (a : Option Addr) (cap : Nat) (w : World) :
    Calls Try.prog 5 #[.int .i64 l, .slice a 0 cap] w fun e w' => e = .returned (.bool true) ∧ Below w.heap.size w w' := by
  go_enter Try.func5, Try.ntmps5
  go_wp2_with (first | (go_at_call 20; refine (new_ok _ h _).mono ?_; rintro e w' ⟨rfl, rfl⟩) | (go_at_call 21; refine (rnew_ok _ h _).mono ?_; rintro e w' ⟨rfl, rfl⟩) | (go_at_call 16; refine (num_any _ _).mono ?_; rintro e w' ⟨rfl, rfl⟩))
  go_loop [9] (fun i => i = .int .i64 0) (fun _ => 0)
  case atStart => rfl
  case round =>
    subst hrel
    go_wp2_with (go_at_call 19; refine (awake_any _).mono ?_; rintro e w1 ⟨rfl, _, hb⟩)
    go_ret
    exact ⟨rfl, (((Below.refl _ _).alloc (Nat.le_refl _) _).alloc (by simp) _).trans (hb.mono (by simp; omega))⟩

/-- The two counters of the law in the world W: tick's at block B, its limit l, its value v; the document's behind it, its value u, its limit l; the number z at its place; below B all is as it was in w. -/
structure St (w : World) (l v u z : Int) (b o : Nat) (W : World) : Prop where
  c0 : W.cell? ⟨w.heap.size, 0, none⟩ = some (.int .i64 l)
  c1 : W.cell? ⟨w.heap.size, 1, none⟩ = some (.int .i64 v)
  c2 : W.frozen? ⟨w.heap.size, 1, none⟩ = false
  r0 : W.cell? ⟨w.heap.size + 1, 0, none⟩ = some (.int .i64 u)
  r1 : W.cell? ⟨w.heap.size + 1, 1, none⟩ = some (.int .i64 l)
  r2 : W.frozen? ⟨w.heap.size + 1, 0, none⟩ = false
  z0 : W.cell? ⟨b, o, none⟩ = some (.int .i64 z)
  below : Below w.heap.size w W

theorem St.draws {w W : World} {l v u z : Int} {b o : Nat} (h : St w l v u z b o W) (n : Nat) : St w l v u z b o (W.drewN n) :=
  ⟨h.c0, h.c1, h.c2, h.r0, h.r1, h.r2, h.z0, below_drewN h.below n⟩
theorem St.drew {w W : World} {l v u z : Int} {b o : Nat} (h : St w l v u z b o W) : St w l v u z b o W.drew := h.draws 1
theorem St.setV {w W : World} {l v u z : Int} {b o : Nat} (h : St w l v u z b o W) (hb : b < w.heap.size) (x : Int) : St w l x u z b o (W.setCell ⟨w.heap.size, 1, none⟩ (.int .i64 x)) where
  c0 := (World.cell?_setCell_other _ _ _ _ (by simp)).trans h.c0
  c1 := World.cell?_setCell_same _ _ _ h.c1
  c2 := by rw [World.frozen?_setCell]; exact h.c2
  r0 := (World.cell?_setCell_other _ _ _ _ (by simp)).trans h.r0
  r1 := (World.cell?_setCell_other _ _ _ _ (by simp)).trans h.r1
  r2 := by rw [World.frozen?_setCell]; exact h.r2
  z0 := (World.cell?_setCell_other _ _ _ _ (fun e => by have := congrArg Addr.block e; simp at this; omega)).trans h.z0
  below := h.below.setCell (Nat.le_refl _) _
theorem St.setU {w W : World} {l v u z : Int} {b o : Nat} (h : St w l v u z b o W) (hb : b < w.heap.size) (x : Int) : St w l v x z b o (W.setCell ⟨w.heap.size + 1, 0, none⟩ (.int .i64 x)) where
  c0 := (World.cell?_setCell_other _ _ _ _ (by simp)).trans h.c0
  c1 := (World.cell?_setCell_other _ _ _ _ (by simp)).trans h.c1
  c2 := by rw [World.frozen?_setCell]; exact h.c2
  r0 := World.cell?_setCell_same _ _ _ h.r0
  r1 := (World.cell?_setCell_other _ _ _ _ (by simp)).trans h.r1
  r2 := by rw [World.frozen?_setCell]; exact h.r2
  z0 := (World.cell?_setCell_other _ _ _ _ (fun e => by have := congrArg Addr.block e; simp at this; omega)).trans h.z0
  below := h.below.setCell (Nat.le_succ _) _

theorem count_st {w W : World} {l v u z : Int} {b o : Nat} (h : St w l v u z b o W) (hb : b < w.heap.size) (z0 : 0 ≤ z) (z1 : z ≤ 9223372036854775807) (v0 : 0 ≤ v) (v1 : v ≤ l) (h' : l ≤ 9223372036854775807) :
    Calls Try.prog 22 #[.pointer (some ⟨w.heap.size, 0, none⟩), .int .i64 z] W fun e W' => e = .returned (.int .i64 0) ∧ St w l (min (v + z) l) u z b o W' :=
  (count_ok _ l v z z0 z1 v0 v1 h' W h.c0 h.c1 h.c2).mono fun _ _ ⟨he, n, hw⟩ => ⟨he, hw ▸ (h.setV hb _).draws n⟩
theorem rcount_st {w W : World} {l v u z : Int} {b o : Nat} (h : St w l v u z b o W) (hb : b < w.heap.size) (z0 : 0 ≤ z) (z1 : z ≤ 9223372036854775807) (v0 : 0 ≤ u) (v1 : u ≤ l) (h' : l ≤ 9223372036854775807) :
    Calls Try.prog 23 #[.pointer (some ⟨w.heap.size + 1, 0, none⟩), .int .i64 z] W fun e W' => e = .returned (.int .i64 0) ∧ St w l v (min (u + z) l) z b o W' :=
  (rcount_ok _ l u z z0 z1 v0 v1 h' W h.r0 h.r1 h.r2).mono fun _ _ ⟨he, n, hw⟩ => ⟨he, hw ▸ (h.setU hb _).draws n⟩
theorem value_st {w W : World} {l v u z : Int} {b o : Nat} (h : St w l v u z b o W) :
    Calls Try.prog 24 #[.pointer (some ⟨w.heap.size, 0, none⟩)] W fun e W' => e = .returned (.int .i64 v) ∧ W' = W := value_any _ v W h.c1
theorem full_st {w W : World} {l v u z : Int} {b o : Nat} (h : St w l v u z b o W) :
    Calls Try.prog 25 #[.pointer (some ⟨w.heap.size, 0, none⟩)] W fun e W' => e = .returned (.bool (v == l)) ∧ St w l v u z b o W' :=
  (full_any _ l v W h.c0 h.c1).mono fun _ _ ⟨he, n, hw⟩ => ⟨he, hw ▸ h.draws n⟩
theorem rfull_st {w W : World} {l v u z : Int} {b o : Nat} (h : St w l v u z b o W) :
    Calls Try.prog 26 #[.pointer (some ⟨w.heap.size + 1, 0, none⟩)] W fun e W' => e = .returned (.bool (u == l)) ∧ St w l v u z b o W' :=
  (rfull_any _ l u W h.r0 h.r1).mono fun _ _ ⟨he, n, hw⟩ => ⟨he, hw ▸ h.draws n⟩

set_option maxRecDepth 100000 in
set_option maxHeartbeats 10000000 in
theorem counts_row (l : Int) (h : 0 ≤ l) (h' : l ≤ 9223372036854775807) (b off len cap : Nat) (zs : List Int) (hm : len ≤ 9223372036854775807) (w : World) (hbw : b < w.heap.size)
    (hl : ∀ j : Nat, -9223372036854775808 ≤ zs[j]?.getD 0 ∧ zs[j]?.getD 0 ≤ 9223372036854775807)
    (hc : ∀ k, k < len → w.cell? ⟨b, off + k, none⟩ = some (.int .i64 (zs[k]?.getD 0))) :
    Calls Try.prog 5 #[.int .i64 l, .slice (some ⟨b, off, none⟩) len cap] w fun e w' => e = .returned (.bool true) ∧ Below w.heap.size w w' := by
  have HC := hide hc
  have HL := hide hl
  clear hc hl
  go_enter Try.func5, Try.ntmps5
  go_wp2_with (first | (go_at_call 20; refine (new_ok _ h _).mono ?_; rintro e w' ⟨rfl, rfl⟩) | (go_at_call 21; refine (rnew_ok _ h _).mono ?_; rintro e w' ⟨rfl, rfl⟩) | (go_at_call 16; refine (num_any _ _).mono ?_; rintro e w' ⟨rfl, rfl⟩))
  go_loopw [9] (fun i W => ∃ (k : Nat) (v : Int), k ≤ len ∧ k ≤ 40 ∧ i = .int .i64 k ∧ 0 ≤ v ∧ v ≤ l ∧ W.cell? ⟨w.heap.size, 0, none⟩ = some (.int .i64 l) ∧ W.cell? ⟨w.heap.size, 1, none⟩ = some (.int .i64 v) ∧ W.frozen? ⟨w.heap.size, 1, none⟩ = false ∧ W.cell? ⟨w.heap.size + 1, 0, none⟩ = some (.int .i64 v) ∧ W.cell? ⟨w.heap.size + 1, 1, none⟩ = some (.int .i64 l) ∧ W.frozen? ⟨w.heap.size + 1, 0, none⟩ = false ∧ Below w.heap.size w W) (fun i _ => 40 - (intOf i).toNat)
  case atStart => exact ⟨0, 0, by omega, by omega, rfl, by omega, h, by simp, by simp, by simp, by simp, by simp, by simp, ((Below.refl _ _).alloc (Nat.le_refl _) _).alloc (by simp) _⟩
  case round =>
    obtain ⟨k, v, hk, hk', rfl, v0, v1, c0, c1, c2, r0, r1, r2, hB⟩ := hrel
    have hsz := hB.size
    by_cases h4 : k < len
    · by_cases h5 : k < 40
      · have hcell : _ = _ := (hB.cell (p := ⟨b, off + k, none⟩) hbw).trans (HC.out k h4)
        obtain ⟨z0, z1⟩ := HL.out k
        generalize zs[k]?.getD 0 = z at hcell z0 z1
        have HB := hide hB
        clear hB
        by_cases hz : z < 0
        · go_wp2_with (first | (go_at_call 22; refine (count_no _ _ hz _).mono ?_; rintro e w' ⟨rfl, rfl⟩))
          go_quiet (first | (go_at_call 16; exact Calls.quiet_of_same (num_any _ _)) | (go_at_call 23; exact Calls.quiet_of_same (rcount_no _ _ hz _)) | (go_at_call 24; exact Calls.quiet_of_same (value_any _ v _ (by simp [c1]))) | (go_at_call 25; exact Calls.quiet_of (full_any _ l v _ (by simp [c0]) (by simp [c1]))) | (go_at_call 26; exact Calls.quiet_of (rfull_any _ l v _ (by simp [r0]) (by simp [r1]))))
          go_wp2
          go_roundw
          case rel => exact ⟨k + 1, v, by omega, by omega, by go_num, v0, v1, by simp [c0], by simp [c1], by simp [c2], by simp [r0], by simp [r1], by simp [r2], below_drewN HB.out _⟩
          case measure => simp [intOf]; omega
        · have hz' : 0 ≤ z := by omega
          clear hz
          have hS : St w l v v z b (off + k) _ := ⟨c0, c1, c2, r0, r1, r2, hcell, HB.out⟩
          clear c0 c1 c2 r0 r1 r2 HB
          go_wp2_with (go_at_call 22; refine (count_st hS hbw hz' z1 v0 v1 h').mono ?_; rintro e W2 ⟨rfl, hS2⟩)
          clear hS hcell
          have HV := hide (show 0 ≤ min (v + z) l ∧ min (v + z) l ≤ l by omega)
          have hS3 := hS2.drew
          have hcell := hS2.z0
          clear hS2
          go_region_with (first | (go_at_call 16; refine (num_any _ _).mono ?_; rintro e w' ⟨rfl, rfl⟩) | (go_at_call 23; refine (rcount_st hS3 hbw hz' z1 v0 v1 h').mono ?_; rintro e W4 ⟨rfl, hS4⟩; have hr0 := hS4.r0) | (go_at_call 24; refine (value_st hS4).mono ?_; rintro e w' ⟨rfl, rfl⟩) | (go_at_call 25; refine (full_st hS4).mono ?_; rintro e W5 ⟨rfl, hS5⟩) | (go_at_call 26; refine (rfull_st hS5).mono ?_; rintro e W6 ⟨rfl, hS6⟩))
          all_goals
            go_wp2
            go_roundw
            case rel => exact ⟨k + 1, min (v + z) l, by omega, by omega, by go_num, HV.out.1, HV.out.2, hS6.c0, hS6.c1, hS6.c2, hS6.r0, hS6.r1, hS6.r2, hS6.below⟩
            case measure => simp [intOf]; omega
      · have HB := hide hB
        clear hB
        go_wp2_with (go_at_call 19; refine (awake_any _).mono ?_; rintro e w1 ⟨rfl, _, hb⟩)
        go_ret
        exact ⟨rfl, HB.out.trans (hb.mono hsz)⟩
    · have HB := hide hB
      clear hB
      go_wp2_with (go_at_call 19; refine (awake_any _).mono ?_; rintro e w1 ⟨rfl, _, hb⟩)
      go_ret
      exact ⟨rfl, HB.out.trans (hb.mono hsz)⟩
#print axioms counts_row
end Go.Proofs.Ytnepbdbalniodaa
