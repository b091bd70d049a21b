/- What the laws of windows and ports want: rows that were made, and what Check answers of Plain with other windows or ports. -/
import Derived.Test.YtgaegggiehhcpaaDoorLaw0
namespace Go.Proofs.YtgaegggiehhcpaaDoor
open Go.RowKit
attribute [local go_sem] alloc_drewN setCell_drewN

theorem make_row {α : Type} (S : Shape α) (z0 : α) (n e : Nat) (w : World) (hn : n ≤ 9223372036854775807) : RowAt S 0 (w.alloc (.cells (madeCells (S.f z0).toArray (n * S.k)) e)) (.slice (some ⟨w.heap.size, 0, none⟩) n n) (List.replicate n z0) := by
  refine ⟨by simpa using hn, _, n, by rw [List.length_replicate], fun _ => ⟨w.heap.size, 0, rfl, ⟨Nat.zero_le _, by simp⟩, fun i x hx j u hu => ?_⟩⟩
  have hi : i < n := by
    rcases Nat.lt_or_ge i n with h | h
    · exact h
    · rw [List.getElem?_eq_none (by simpa using h)] at hx; cases hx
  obtain rfl : x = z0 := by
    rw [List.getElem?_replicate, if_pos hi] at hx
    exact (Option.some.inj hx).symm
  have hj : j < S.k := by
    rcases Nat.lt_or_ge j S.k with h | h
    · exact h
    · rw [List.getElem?_eq_none (by rw [S.len]; exact h)] at hu; cases hu
  have hlt : i * S.k + j < n * S.k := by
    have : (i + 1) * S.k ≤ n * S.k := Nat.mul_le_mul_right _ hi
    rw [Nat.add_mul] at this
    omega
  have hmod : (i * S.k + j) % S.k = j := by rw [Nat.add_comm, Nat.add_mul_mod_self_right, Nat.mod_eq_of_lt hj]
  rw [blk_cell (heap_alloc_new w _), Nat.zero_add]
  simp only [madeCells, Array.getElem?_map, Array.getElem?_range, hlt, if_true, Option.map_some, List.size_toArray, S.len, hmod]
  rw [← hu]
  have hjl : j < (S.f x).length := by rw [S.len]; exact hj
  simp [hjl]
theorem winsB_bad {f : Int} {n : Nat} {ws : List WinV} (i : Nat) (hi : i < ws.length) (h : winB (endAt ws i) f n (winAt ws i) = false) : winsB f n ws = false := by
  unfold winsB; rw [allB_false (f := fun i => winB (endAt ws i) f n (winAt ws i)) hi h]; simp
theorem portsB_bad {ls : List Int} {os : List PortV} (i : Nat) (hi : i < os.length) (h : portB ls (portAt os i) = false) : portsB ls os = false := by
  unfold portsB; rw [allB_false (f := fun i => portB ls (portAt os i)) hi h]; simp
def plainP : List PartV := [⟨1, [pt0], [(1, 7), (9, 0)]⟩, ⟨0, [pt1], []⟩]
theorem ck1 : frameB 10 2 = true := by kernel_rfl
theorem ck2 : partsB plainP = true := by kernel_rfl
theorem ck3 : allB plainP.length (fun i => tasksB (partAt plainP i)) = true := by kernel_rfl
theorem ck4 : winsB 10 plainP.length [px0, px1] = true := by kernel_rfl
theorem ck5 : portsB (plainP.map PartV.level) [po0] = true := by kernel_rfl
theorem chkW (ws : List WinV) (os : List PortV) (h : winsB 10 2 ws = false) : checkN ⟨10, 2, plainP, ws, os⟩ = 504 := by
  have h' : winsB 10 plainP.length ws = false := h
  simp [checkN, ck1, ck2, ck3, h']
theorem chkO (os : List PortV) (h : portsB [1, 0] os = false) : checkN ⟨10, 2, plainP, [px0, px1], os⟩ = 505 := by
  have h' : portsB (plainP.map PartV.level) os = false := h
  simp [checkN, ck1, ck2, ck3, ck4, h']
theorem and1 (z : Int) : ∃ c : Int, 0 ≤ c ∧ c ≤ 1 ∧ bits .and .i64 z 1 = c := ⟨z % 2, by omega, by omega, and_low z 1 (by decide) 1 (by decide)⟩
theorem putS_bad {C : ConfV} {k : Int} (h : checkN C = k) (hk : k ≠ 0) : putS C = ⟨#[]⟩ := if_neg (by rw [h]; exact hk)

#print axioms chkO
end Go.Proofs.YtgaegggiehhcpaaDoor
