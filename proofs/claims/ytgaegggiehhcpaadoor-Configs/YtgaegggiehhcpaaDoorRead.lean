/- The reader of bytes in memory, and the contracts of its take and number, proved over the translation. -/
import Derived.Test.YtgaegggiehhcpaaDoorPut
import Derived.Lib.ConvBytes
import Derived.Laws.BitsLemmas
namespace Go.Proofs.YtgaegggiehhcpaaDoor
open Go.RowKit
attribute [local go_sem] alloc_drewN setCell_drewN

/-- The bytes of a text, as numbers. -/
def nums (s : ByteArray) : List Int := s.data.toList.map fun b => (b.toNat : Int)
theorem nums_length (s : ByteArray) : (nums s).length = s.size := by
  unfold nums
  rw [List.length_map, Array.length_toList]
  rfl
theorem nums_byte (s : ByteArray) (k : Nat) : 0 ≤ (nums s)[k]?.getD 0 ∧ (nums s)[k]?.getD 0 < 256 := by
  rw [nums, List.getElem?_map]
  cases h : s.data.toList[k]? with
  | none => simp
  | some b =>
    have := b.toNat_lt
    simp
    omega
theorem nums_extract (s : ByteArray) (i j : Nat) : nums (s.extract i j) = ((nums s).drop i).take (j - i) := by
  unfold nums
  rw [ByteArray.data_extract, Array.toList_extract, List.extract_eq_take_drop, List.map_take, List.map_drop]

/-! A struct of two cells. -/
theorem two_cell0 {W : World} {b t : Nat} {u v : Value} (h : W.heap[b]? = some (.cells #[u, v] t (0, 0))) : W.cell? ⟨b, 0, none⟩ = some u := by simp [World.cell?, h]
theorem two_cell1 {W : World} {b t : Nat} {u v : Value} (h : W.heap[b]? = some (.cells #[u, v] t (0, 0))) : W.cell? ⟨b, 1, none⟩ = some v := by simp [World.cell?, h]
theorem two_free {W : World} {b t : Nat} {u v : Value} (h : W.heap[b]? = some (.cells #[u, v] t (0, 0))) (k : Nat) : W.frozen? ⟨b, k, none⟩ = false := by simp [World.frozen?, h]
theorem two_set0 {W : World} {b t : Nat} {u v x : Value} (h : W.heap[b]? = some (.cells #[u, v] t (0, 0))) : (W.setCell ⟨b, 0, none⟩ x).heap[b]? = some (.cells #[x, v] t (0, 0)) := by
  simp [World.setCell, Array.getElem?_modify, h]
theorem two_set1 {W : World} {b t : Nat} {u v x : Value} (h : W.heap[b]? = some (.cells #[u, v] t (0, 0))) : (W.setCell ⟨b, 1, none⟩ x).heap[b]? = some (.cells #[u, x] t (0, 0)) := by
  simp [World.setCell, Array.getElem?_modify, h]

abbrev St := List Int × Bool
/-- A reader at b: what is left of the text, and whether it was too short. -/
def RAt (W : World) (b : Nat) (st : St) : Prop := st.1.length ≤ 65536 ∧ ∃ s : ByteArray, nums s = st.1 ∧ W.heap[b]? = some (.cells #[.string s, .bool st.2] 76 (0, 0))
theorem RAt.lt {W : World} {b : Nat} {st : St} (h : RAt W b st) : b < W.heap.size := by obtain ⟨_, s, _, h⟩ := h; exact box_lt h
theorem RAt.grown {W W2 : World} {b : Nat} {st : St} (h : RAt W b st) (hg : W.grownBy W2 none) : RAt W2 b st := by
  obtain ⟨h0, s, h1, h2⟩ := h
  exact ⟨h0, s, h1, box_grown h2 hg (by simp)⟩
/-- The next bytes, so many, and what is left. -/
def takeR (k : Nat) (st : St) : List Int × St := if st.2 = true ∨ st.1.length < k then ([], (st.1, true)) else (st.1.take k, (st.1.drop k, false))
/-- The number that bytes tell, the highest first. -/
def val (l : List Int) : Int := l.foldl (fun x b => x * 256 + b) 0
def numR (k : Nat) (st : St) : Int × St := (val (takeR k st).1, (takeR k st).2)

set_option maxRecDepth 100000 in
set_option maxHeartbeats 1000000 in
theorem take_any (b k : Nat) (hk : k ≤ 2) (st : St) (w : World) (h : RAt w b st) :
    Calls Tryd.prog 62 #[.pointer (some ⟨b, 0, none⟩), .int .i64 k] w fun e w' => ∃ t : ByteArray, e = .returned (.string t) ∧ nums t = (takeR k st).1 ∧ RAt w' b (takeR k st).2 ∧ w.grownBy w' (some b) := by
  obtain ⟨l, sh⟩ := st
  obtain ⟨h0, s, h1, h2⟩ := h
  dsimp only at h0 h1 h2
  have hsz : s.size = l.length := by rw [← h1, nums_length]
  have c0 := two_cell0 h2
  have c1 := two_cell1 h2
  have fr := two_free h2
  have HH := hide h2
  have H1 := hide h1
  clear h2
  cases sh with
  | true =>
    have ht : takeR k (l, true) = ([], (l, true)) := if_pos (.inl rfl)
    rw [ht]
    go_enter Tryd.func62, Tryd.ntmps62
    go_wp2
    go_ret
    exact ⟨⟨#[]⟩, rfl, rfl, ⟨h0, s, H1.out, two_set1 HH.out⟩, grownBy_set _ _ _ _⟩
  | false =>
    by_cases hl : l.length < k
    · have ht : takeR k (l, false) = ([], (l, true)) := if_pos (.inr hl)
      rw [ht]
      have hl2 : s.size < k := by omega
      clear hsz
      go_enter Tryd.func62, Tryd.ntmps62
      go_wp2
      go_ret
      exact ⟨⟨#[]⟩, rfl, rfl, ⟨h0, s, H1.out, two_set1 HH.out⟩, grownBy_set _ _ _ _⟩
    · have ht : takeR k (l, false) = (l.take k, (l.drop k, false)) := if_neg (by simp; omega)
      rw [ht]
      have hl2 : (k : Int) ≤ s.size := by omega
      have hl3 : (0 : Int) ≤ (k : Int) := by omega
      have HE := hide (show nums (s.extract 0 k) = l.take k by rw [nums_extract, H1.out]; simp)
      have HE2 := hide (show nums (s.extract k s.size) = l.drop k by
        rw [nums_extract, H1.out, ← nums_length, H1.out]
        exact List.take_of_length_le (by simp))
      clear hsz
      go_enter Tryd.func62, Tryd.ntmps62
      go_wp2
      go_ret
      refine ⟨s.extract 0 k, rfl, HE.out, ⟨?_, s.extract k s.size, HE2.out, ?_⟩, grownBy_set _ _ _ _⟩
      · show (l.drop k).length ≤ 65536
        rw [List.length_drop]; omega
      · exact two_set0 HH.out
#print axioms take_any

theorem or_byte (y z : Int) (y0 : 0 ≤ y) (y1 : y < 256) (z0 : 0 ≤ z) (z1 : z < 256) : bits BinOp.or IntKind.i64 (y * 256) z = y * 256 + z :=
  bits_join .i64 32 (by decide) (fun n h0 h1 => by rw [IntKind.wrap_i64]; omega) 8 (y * 256) z (by omega) (by omega) (by omega) z0 (by omega) (by omega)

theorem conv_bytes (w : World) (s : ByteArray) : ∃ cap w', (convert 9 61 (.string s)).run Tryd.prog w = .ok (.slice (some ⟨w.heap.size, 0, none⟩) s.size cap) w' ∧ w.grownBy w' none ∧ ∀ j, j < s.size → w'.cell? ⟨w.heap.size, j, none⟩ = some (.int .u8 ((nums s)[j]?.getD 0)) := by
  refine ⟨_, _, Go.Lib.run_convert_string_bytes w 9 61 5 s Tryd.underlying9 Tryd.underlying61 Tryd.underlying5, ⟨?_, ?_, ?_, ?_, ?_⟩, ?_⟩
  · simp [Go.Lib.bytesWorld, World.freeze, World.alloc, World.drew, -World.alloc_eq, -World.drew_eq]
  · simp [Go.Lib.bytesWorld, World.freeze, World.alloc, World.drew, -World.alloc_eq, -World.drew_eq]
  · simp [Go.Lib.bytesWorld, World.freeze, World.alloc, World.drew, -World.alloc_eq, -World.drew_eq]
  · rw [Go.Lib.bytesWorld_size]; omega
  · intro k hk _
    exact Go.Lib.bytesWorld_at_old w 5 s k hk
  · intro j hj
    rw [Go.Lib.bytesWorld_cell w 5 s j hj]
    congr 2
    have : j < s.data.toList.length := by rw [Array.length_toList]; exact hj
    rw [nums, List.getElem?_map, List.getElem?_eq_getElem this]
    simp [List.getD, List.getElem?_eq_getElem this]

set_option maxRecDepth 100000 in
set_option maxHeartbeats 1000000 in
theorem number_any (b k : Nat) (hk : k ≤ 2) (st : St) (w : World) (h : RAt w b st) :
    Calls Tryd.prog 63 #[.pointer (some ⟨b, 0, none⟩), .int .i64 k] w fun e w' => e = .returned (.int .i64 (numR k st).1) ∧ RAt w' b (numR k st).2 ∧ w.grownBy w' (some b) := by
  have CT := hide (take_any b k hk st w h)
  have HL := hide (show (takeR k st).1.length ≤ 2 by
    unfold takeR
    split
    · simp
    · rw [List.length_take]; omega)
  clear h
  unfold numR
  generalize takeR k st = r at *
  obtain ⟨tl, st2⟩ := r
  dsimp only at HL CT ⊢
  go_enter Tryd.func63, Tryd.ntmps63
  go_wp2_with (first | fail)
  refine CT.out.mono ?_; rintro e w1 ⟨t, rfl, ht, hr, hg⟩
  have HR := hide hr
  have HG := hide hg
  have HT := hide ht
  have hts : t.size ≤ 2 := by rw [← nums_length, ht]; exact HL.out
  have HB := hide (nums_byte t)
  clear hr hg ht CT
  obtain ⟨cap, w2, hrun, hg2, hcells⟩ := conv_bytes w1 t
  have HG2 := hide hg2
  have HC := hide hcells
  have HTS := hide (show (nums t).length = t.size from nums_length t)
  clear hg2 hcells
  generalize hn : t.size = n at *
  clear hn
  go_wp2
  go_loopw [5, 7, 13] (fun x _ i W => ∃ (j : Nat) (y : Int), j ≤ n ∧ i = .int .i64 j ∧ x = .int .i64 y ∧ Hid (y = val ((nums t).take j)) ∧ W = w2) (fun _ _ i _ => n - (intOf i).toNat)
  case atStart => exact ⟨0, 0, by omega, rfl, rfl, rfl, rfl⟩
  case round =>
    obtain ⟨j, y, hj, rfl, rfl, HY, rfl⟩ := hrel
    by_cases hlt : j < n
    · have c := HC.out j hlt
      have hb := HB.out j
      have HS := hide (show (nums t).take (j + 1) = (nums t).take j ++ [(nums t)[j]?.getD 0] by
        have hl : j < (nums t).length := by rw [HTS.out]; exact hlt
        rw [List.take_succ_eq_append_getElem hl, List.getElem?_eq_getElem hl]; rfl)
      generalize (nums t)[j]?.getD 0 = z at *
      have hyb : 0 ≤ y ∧ y < 256 := by
        have e := HY.out
        rcases (by omega : j = 0 ∨ j = 1) with rfl | rfl
        · simp [val] at e; omega
        · have h1 : (nums t).take 1 = [(nums t)[0]?.getD 0] := by
            have hl : 0 < (nums t).length := by rw [HTS.out]; omega
            have := List.take_succ_eq_append_getElem hl
            rw [this, List.getElem?_eq_getElem hl]; rfl
          have := HB.out 0
          rw [h1] at e
          simp [val] at e
          rw [e]; exact this
      obtain ⟨y0, y1⟩ := hyb
      obtain ⟨z0, z1⟩ := hb
      have hor := or_byte y z y0 y1 z0 z1
      go_wp2
      go_roundw
      case rel =>
        refine ⟨j + 1, y * 256 + z, by omega, by go_num, rfl, ?_, trivial⟩
        rw [HS.out, val, List.foldl_append, ← val, ← HY.out]
        rfl
      case measure => simp [intOf]; omega
    · go_wp2
      go_ret
      have e : j = n := by omega
      subst e
      refine ⟨?_, HR.out.grown HG2.out, grownBy_trans HG.out (grownBy_any HG2.out)⟩
      rw [← HT.out, HY.out, show (nums t).take j = nums t by rw [← HTS.out, List.take_length]]
      rfl
#print axioms number_any
end Go.Proofs.YtgaegggiehhcpaaDoor
