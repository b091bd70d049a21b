/- What the bound of the second form gives: a text's length, a slice's length. -/
import Derived.Test.YtdgdoiigcdlpaaaDoorFrame
namespace Go.Proofs.YtdgdoiigcdlpaaaDoor

theorem bulk_pos {H : Type} (d : DataW H) : 1 ≤ Rows.uptoBulk d := by
  match d with
  | .lit l => cases l <;> simp [Rows.uptoBulk]
  | .nil => simp [Rows.uptoBulk]
  | .ptr d => simp [Rows.uptoBulk]
  | .slice _ _ => simp [Rows.uptoBulk]
  | .agg _ => simp [Rows.uptoBulk]
  | .iface _ _ => simp [Rows.uptoBulk]
  | .map _ => simp [Rows.uptoBulk]
  | .held _ => simp [Rows.uptoBulk]
theorem bulk_count {H : Type} : ∀ l : List (DataW H), l.length ≤ Rows.uptoBulkAll l
  | [] => Nat.zero_le _
  | d :: r => by
    have h1 := bulk_pos d
    have h2 := bulk_count r
    rw [Rows.uptoBulkAll, List.length_cons]
    omega
theorem bulk_at {H : Type} : ∀ {l : List (DataW H)} {j : Nat} {d : DataW H}, l[j]? = some d → Rows.uptoBulk d ≤ Rows.uptoBulkAll l
  | [], j, d, h => by simp at h
  | x :: r, 0, d, h => by
    simp only [List.getElem?_cons_zero, Option.some.injEq] at h
    subst h
    rw [Rows.uptoBulkAll]
    omega
  | x :: r, j + 1, d, h => by
    have := bulk_at (l := r) (j := j) (by simpa using h)
    rw [Rows.uptoBulkAll]
    omega
theorem bulk_all {H : Type} {l : List (DataW H)} (h : Rows.uptoSmall H l = true) : Rows.uptoBulkAll l ≤ 1048576 := by
  unfold Rows.uptoSmall at h
  exact of_decide_eq_true h
theorem str_upto {H : Type} {l : List (DataW H)} (hup : Rows.uptoSmall H l = true) {j : Nat} {a : ByteArray} (h : l[j]? = some (.lit (.string a.data.toList))) : a.size ≤ 1048576 := by
  have h1 := bulk_at h
  have h2 := bulk_all hup
  have h3 : Rows.uptoBulk (DataW.lit (H := H) (.string a.data.toList)) = a.data.toList.length + 1 := by simp [Rows.uptoBulk]
  have h4 : a.data.toList.length = a.size := by rw [Array.length_toList]; rfl
  omega
theorem ins_upto {H : Type} {l : List (DataW H)} (hup : Rows.uptoSmall H l = true) {j : Nat} {elems spare : List (DataW H)} (h : l[j]? = some (.slice elems spare)) : elems.length ≤ 1048576 := by
  have h1 := bulk_at h
  have h2 := bulk_all hup
  have h3 : Rows.uptoBulk (DataW.slice elems spare) = Rows.uptoBulkAll elems + Rows.uptoBulkAll spare + 1 := by simp [Rows.uptoBulk]
  have h4 := bulk_count elems
  omega
#print axioms ins_upto
end Go.Proofs.YtdgdoiigcdlpaaaDoor
