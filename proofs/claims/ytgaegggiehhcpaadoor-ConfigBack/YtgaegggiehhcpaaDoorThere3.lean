/- Put and Get, there and back, in the answers' own words: lemmas alone; nothing of the program's functions. -/
import Derived.Test.YtgaegggiehhcpaaDoorThere2
namespace Go.Proofs.YtgaegggiehhcpaaDoor
open Go.RowKit

theorem nums_str (l : List Int) (h : ∀ b ∈ l, 0 ≤ b ∧ b < 256) : nums (strOfNums l) = l := by
  unfold nums strOfNums
  simp only [List.map_map]
  conv => rhs; rw [← List.map_id l]
  apply List.map_congr_left
  intro b hb
  have := h b hb
  have e : b.toNat < 256 := by omega
  simp [UInt8.toNat_ofNat', Nat.mod_eq_of_lt e]
  omega
theorem be_bytes (k : Nat) (x : Int) : ∀ b ∈ be k x, 0 ≤ b ∧ b < 256 := by
  intro b hb
  unfold be at hb
  split at hb <;> simp at hb <;> omega
theorem flat_bytes {α : Type} {f : α → List Int} {xs : List α} (h : ∀ x, ∀ b ∈ f x, 0 ≤ b ∧ b < 256) : ∀ b ∈ layAll f xs, 0 ≤ b ∧ b < 256 := by
  intro b hb
  unfold layAll at hb
  rcases List.mem_append.1 hb with hb | hb
  · exact be_bytes _ _ b hb
  · obtain ⟨x, _, hx⟩ := List.mem_flatMap.1 hb
    exact h x b hx
theorem app_bytes2 {p q : List Int} (h1 : ∀ b ∈ p, 0 ≤ b ∧ b < 256) (h2 : ∀ b ∈ q, 0 ≤ b ∧ b < 256) : ∀ b ∈ p ++ q, 0 ≤ b ∧ b < 256 := fun b hb => by
  rcases List.mem_append.1 hb with hb | hb
  · exact h1 b hb
  · exact h2 b hb
theorem layConf_bytes (C : ConfV) : ∀ b ∈ layConf C, 0 ≤ b ∧ b < 256 := by
  have ht : ∀ t, ∀ b ∈ layTask t, 0 ≤ b ∧ b < 256 := fun t => app_bytes2 (be_bytes _ _) (app_bytes2 (be_bytes _ _) (app_bytes2 (be_bytes _ _) (app_bytes2 (be_bytes _ _) (app_bytes2 (be_bytes _ _) (be_bytes _ _)))))
  have hi : ∀ t, ∀ b ∈ layIns t, 0 ≤ b ∧ b < 256 := fun t => app_bytes2 (be_bytes _ _) (be_bytes _ _)
  have hw : ∀ t, ∀ b ∈ layWin t, 0 ≤ b ∧ b < 256 := fun t => app_bytes2 (be_bytes _ _) (app_bytes2 (be_bytes _ _) (be_bytes _ _))
  have ho : ∀ t, ∀ b ∈ layPort t, 0 ≤ b ∧ b < 256 := fun t => app_bytes2 (be_bytes _ _) (app_bytes2 (be_bytes _ _) (app_bytes2 (be_bytes _ _) (be_bytes _ _)))
  have hp : ∀ t, ∀ b ∈ layPart t, 0 ≤ b ∧ b < 256 := fun t => app_bytes2 (be_bytes _ _) (app_bytes2 (flat_bytes ht) (flat_bytes hi))
  exact app_bytes2 (by decide) (app_bytes2 (be_bytes _ _) (app_bytes2 (be_bytes _ _) (app_bytes2 (flat_bytes hp) (app_bytes2 (flat_bytes hw) (flat_bytes ho)))))
/-- Of what may be: Get reads Put's bytes. -/
theorem get_put {C : ConfV} (h : checkN C = 0) : getE (putS C) = 0 ∧ getC (putS C) = C := by
  have e : putS C = strOfNums (layConf C) := if_pos h
  have hn : nums (putS C) = layConf C := by rw [e]; exact nums_str _ (layConf_bytes C)
  have hr : confR (nums (putS C), false) = (C, ([], false)) := by
    have := conf_there h []
    rw [List.append_nil] at this
    rw [hn]; exact this
  have hs : ¬ 65536 < (putS C).size := by rw [e, strOfNums_size]; have := layConf_le h; omega
  have h1 : getE (putS C) = 0 := by
    unfold getE
    rw [if_neg hs, hr]
    exact h
  refine ⟨h1, ?_⟩
  unfold getC
  rw [if_pos h1, hr]
/-- A part of them is none. -/
theorem get_cut {C : ConfV} (h : checkN C = 0) (s : ByteArray) (k : Nat) (hk : k < (layConf C).length) (hs : nums s = (layConf C).take k) : getE s = 500 := by
  unfold getE
  have hsz : s.size = k := by rw [← nums_length, hs, List.length_take]; omega
  have := layConf_le h
  rw [if_neg (by omega), hs]
  have hc := conf_cut h k hk
  have hd : doneR (confR ((layConf C).take k, false)).2 = false := by unfold doneR; rw [hc]; rfl
  rw [if_pos hd]
/-- Bytes behind them are none. -/
theorem get_more {C : ConfV} (h : checkN C = 0) (s : ByteArray) (b : Int) (hs : nums s = layConf C ++ [b]) : getE s = 500 := by
  unfold getE
  have hsz : s.size = (layConf C).length + 1 := by rw [← nums_length, hs]; simp
  have := layConf_le h
  rw [if_neg (by omega), hs, conf_there h [b]]
  rfl
/-- What Get reads is laid again as it lay. -/
theorem put_get {s : ByteArray} (h : getE s = 0) : checkN (getC s) = 0 ∧ putS (getC s) = s := by
  have h0 : getC s = (confR (nums s, false)).1 := if_pos h
  unfold getE at h
  split at h
  · cases h
  · split at h
    · cases h
    · rename_i hd
      have hc : checkN (getC s) = 0 := by rw [h0]; exact h
      refine ⟨hc, ?_⟩
      unfold doneR at hd
      simp only [Bool.and_eq_false_iff, not_or, Bool.not_eq_false, Bool.not_eq_false'] at hd
      have hsh : (confR (nums s, false)).2.2 = false := by simpa using hd.1
      have hre : (confR (nums s, false)).2.1 = [] := by simpa using hd.2
      have := conf_lays (nums s) (fun b hb => nums_mem hb) hsh
      rw [hre, List.append_nil] at this
      show (if checkN (getC s) = 0 then strOfNums (layConf (getC s)) else ⟨#[]⟩) = s
      rw [if_pos hc, h0, ← this, strOfNums_nums]
#print axioms get_put
#print axioms put_get
end Go.Proofs.YtgaegggiehhcpaaDoor
