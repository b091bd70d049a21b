/- The walk of the statement Configs: any configuration and any text; proved over the translation. -/
import Derived.Test.YtgaegggiehhcpaaDoorSpoilC
import Derived.Test.YtgaegggiehhcpaaDoorRefPutc
import Derived.Test.YtgaegggiehhcpaaDoorSame
import Derived.Test.YtgaegggiehhcpaaDoorAwake
namespace Go.Proofs.YtgaegggiehhcpaaDoor.R5
open Go.RowKit
attribute [local go_sem] alloc_drewN setCell_drewN

theorem hp_up {W W2 : World} {b : Nat} {x : Obj} (h : W.heap[b]? = some x) (hg : W.grownBy W2 none) : W2.heap[b]? = some x := box_grown h hg (by simp)
theorem cown_form {base : Nat} {W : World} {c : Value} {C : ConfV} (h : Cp.COwn base W c C) : ∃ a1 n1 c1 a2 n2 c2 a3 n3 c3, c = .agg #[.int .i64 C.frame, .int .i64 C.quiet, .slice a1 n1 c1, .slice a2 n2 c2, .slice a3 n3 c3] := by
  obtain ⟨vp, vw, vo, rfl, ⟨qs', _, h1, _⟩, h2, h3⟩ := h
  obtain ⟨a1, c1, rfl⟩ := own_form h1
  obtain ⟨a2, c2, rfl⟩ := own_form h2
  obtain ⟨a3, c3, rfl⟩ := own_form h3
  exact ⟨_, _, _, _, _, _, _, _, _, rfl⟩
theorem down_form {base : Nat} {W : World} {c : Value} {C : ConfV} (h : ConfOwn base W c C) : ∃ a1 n1 c1 a2 n2 c2 a3 n3 c3, c = .agg #[.int .i64 C.frame, .int .i64 C.quiet, .slice a1 n1 c1, .slice a2 n2 c2, .slice a3 n3 c3] := by
  obtain ⟨vp, vw, vo, rfl, ⟨qs', _, h1, _⟩, h2, h3⟩ := h
  obtain ⟨a1, c1, rfl⟩ := own_form h1
  obtain ⟨a2, c2, rfl⟩ := own_form h2
  obtain ⟨a3, c3, rfl⟩ := own_form h3
  exact ⟨_, _, _, _, _, _, _, _, _, rfl⟩
theorem Sh.below {lo hi : Nat} {w W V : World} (h : Sh lo hi W V) (hg : w.grownBy W none) (hl : w.heap.size ≤ lo) : w.grownBy V none :=
  ⟨h.os.trans hg.os, h.tape.trans hg.tape, h.output.trans hg.output, Nat.le_trans hg.size h.size, fun k hk _ => (h.block k (by have := hg.size; omega) (.inl (by omega))).trans (hg.block k hk (by simp))⟩
theorem box5 {W : World} {X : Nat} {v0 v1 v2 v3 v4 : Value} (h : W.heap[X]? = some (.cells #[v0, v1, v2, v3, v4] 26 (0, 0))) : W.cell? ⟨X, 0, none⟩ = some v0 ∧ W.cell? ⟨X, 1, none⟩ = some v1 ∧ W.cell? ⟨X, 2, none⟩ = some v2 ∧ W.cell? ⟨X, 3, none⟩ = some v3 ∧ W.cell? ⟨X, 4, none⟩ = some v4 :=
  ⟨blk_cell h 0, blk_cell h 1, blk_cell h 2, blk_cell h 3, blk_cell h 4⟩

set_option maxRecDepth 100000 in
set_option maxHeartbeats 8000000 in
theorem configs_any {lo : Nat} (c : Value) (C : ConfV) (hbig : Big C) (s : ByteArray) (hs : s.size ≤ 9223372036854775807) (w : World) (hT : Tab w) (hc : ConfAt lo w c C) :
    Calls Tryd.prog 3 #[c, .string s] w fun e w' => e = .returned (.bool true) ∧ w.grownBy w' none := by
  have NUM : Hid (∀ (e : Int) (W : World), Calls Tryd.prog 15 #[.int .i64 e] W fun r w' => r = .returned (.int .i64 e) ∧ W.grownBy w' none) := fun e W => (num_any e W).mono fun _ _ h => ⟨h.1, by rw [h.2]; exact grownBy_refl _ _⟩
  have CA := hide (fun W (hg : w.grownBy W none) => awake_any W (hT.grown hg))
  have CC := hide (fun W (hg : w.grownBy W none) => Cp.copy_any c C hbig W (hc.grown hg))
  have CK := hide (fun (base : Nat) c' W (hg : w.grownBy W none) (h : ConfAt base W c' C) => check_any c' C W (hT.grown hg) h)
  have CP := hide (fun (base : Nat) c' W (hg : w.grownBy W none) (h : ConfAt base W c' C) => put_any c' C W (hT.grown hg) h)
  have RP := hide (fun W (hg : w.grownBy W none) => putConfig_ref c C W (hc.grown hg))
  have RK := hide (fun W (hg : w.grownBy W none) => R6.rcheck_any c C W (hc.grown hg))
  have CG := hide (fun W (hg : w.grownBy W none) => get_any s hs W (hT.grown hg))
  have RG := hide (fun W => getc_ref s hs W)
  have SC := hide (fun (base : Nat) c' W (hg : w.grownBy W none) (h : ConfAt base W c' C) => same_conf c' c C W h (hc.grown hg))
  obtain ⟨vp, vw, vo, rfl, ⟨qs, hlen, ⟨hl, c1, cc1, rfl, -⟩, -⟩, ⟨-, c2, cc2, rfl, -⟩, ⟨-, c3, cc3, rfl, -⟩⟩ := hc
  have SD := hide (fun (b1 b2 : Nat) x y W (h1 : ConfAt b1 W x (getC s)) (h2 : ConfAt b2 W y (getC s)) => same_conf x y (getC s) W h1 h2)
  have SPC := hide (fun (lo : Nat) W0 W d (h : ConfOwn lo W0 d (getC s)) (hg : W0.grownBy W none) => spoilC d (getC s) h hg)
  have DF := hide (fun (base : Nat) W c' (h : Cp.COwn base W c' C) => cown_form h)
  have DD := hide (fun (base : Nat) W c' (h : ConfOwn base W c' (getC s)) => down_form h)
  have DE := hide (fun (base : Nat) W c' (h : Cp.COwn base W c' (getC s)) => cown_form h)
  clear hT hlen hs
  generalize checkN C = ck at *
  generalize putS C = sp at *
  generalize getE s = ge at *
  generalize getC s = D at *
  generalize C.frame = cf at *
  generalize C.quiet = cq at *
  generalize D.frame = df at *
  generalize D.quiet = dq at *
  generalize qs.length = cn1 at *
  generalize C.wins.length = cn2 at *
  generalize C.ports.length = cn3 at *
  have HG0 := hide (World.grownBy_alloc w (.cells #[.int .i64 cf, .int .i64 cq, .slice c1 cn1 cc1, .slice c2 cn2 cc2, .slice c3 cn3 cc3] 26) none)
  have HX0 := hide (heap_alloc_new w (.cells #[.int .i64 cf, .int .i64 cq, .slice c1 cn1 cc1, .slice c2 cn2 cc2, .slice c3 cn3 cc3] 26))
  have HZ := hide (show w.heap.size < (w.alloc (.cells #[.int .i64 cf, .int .i64 cq, .slice c1 cn1 cc1, .slice c2 cn2 cc2, .slice c3 cn3 cc3] 26)).heap.size by simp)
  go_enter Tryd.func3, Tryd.ntmps3
  go_upto_region 1 with fail
  generalize w.alloc (.cells #[.int .i64 cf, .int .i64 cq, .slice c1 cn1 cc1, .slice c2 cn2 cc2, .slice c3 cn3 cc3] 26) = wb at *
  generalize w.heap.size = X at *
  obtain ⟨x0, x1, x2, x3, x4⟩ := box5 HX0.out
  go_wp2_with (first | fail)
  refine (CC.out _ HG0.out).mono ?_; rintro e w1 ⟨c', rfl, ho, hg⟩
  have O1 := hide ho
  obtain ⟨a1, an1, ac1, a2, an2, ac2, a3, an3, ac3, rfl⟩ := DF.out _ _ _ ho
  have A2 := hide (World.grownBy_alloc w1 (.cells #[.int .i64 cf, .int .i64 cq, .slice a1 an1 ac1, .slice a2 an2 ac2, .slice a3 an3 ac3] 26) none)
  have HXa := hide (heap_alloc_new w1 (.cells #[.int .i64 cf, .int .i64 cq, .slice a1 an1 ac1, .slice a2 an2 ac2, .slice a3 an3 ac3] 26))
  have OA := hide (O1.out.at.grown A2.out)
  have Ga := hide (grownBy_trans HG0.out (grownBy_trans hg A2.out))
  have HXc := hide (hp_up HX0.out (grownBy_trans hg A2.out))
  clear hg ho CC x0 x1 x2 x3 x4 O1 A2 HX0 HG0
  go_upto_region 2 with fail
  generalize w1.alloc (.cells #[.int .i64 cf, .int .i64 cq, .slice a1 an1 ac1, .slice a2 an2 ac2, .slice a3 an3 ac3] 26) = wx at *
  generalize w1.heap.size = Xa at *
  clear w1
  obtain ⟨x0, x1, x2, x3, x4⟩ := box5 HXa.out
  go_wp2_with (first | fail)
  refine (CK.out _ _ _ Ga.out OA.out).mono ?_; rintro e v0 ⟨rfl, hg⟩
  have NGa := hide (grownBy_trans Ga.out hg)
  have NOA := hide (OA.out.grown hg)
  have NHXa := hide (hp_up HXa.out hg)
  have NHXc := hide (hp_up HXc.out hg)
  clear hg x0 x1 x2 x3 x4 Ga OA HXa HXc
  have Ga := NGa
  have OA := NOA
  have HXa := NHXa
  have HXc := NHXc
  clear NGa NOA NHXa NHXc
  obtain ⟨x0, x1, x2, x3, x4⟩ := box5 HXa.out
  go_wp2_with (first | fail)
  refine (CP.out _ _ _ Ga.out OA.out).mono ?_; rintro e v1 ⟨rfl, hg⟩
  have NGa := hide (grownBy_trans Ga.out hg)
  have NOA := hide (OA.out.grown hg)
  have NHXa := hide (hp_up HXa.out hg)
  have NHXc := hide (hp_up HXc.out hg)
  clear hg x0 x1 x2 x3 x4 Ga OA HXa HXc
  have Ga := NGa
  have OA := NOA
  have HXa := NHXa
  have HXc := NHXc
  clear NGa NOA NHXa NHXc
  obtain ⟨x0, x1, x2, x3, x4⟩ := box5 HXc.out
  go_wp2_with (first | fail)
  refine (RP.out _ Ga.out).mono ?_; rintro e v2 ⟨rfl, hg⟩
  have NGa := hide (grownBy_trans Ga.out hg)
  have NOA := hide (OA.out.grown hg)
  have NHXa := hide (hp_up HXa.out hg)
  have NHXc := hide (hp_up HXc.out hg)
  clear hg x0 x1 x2 x3 x4 Ga OA HXa HXc
  have Ga := NGa
  have OA := NOA
  have HXa := NHXa
  have HXc := NHXc
  clear NGa NOA NHXa NHXc
  go_wp2_with (first | fail)
  refine (CG.out _ Ga.out).mono ?_; rintro e v3 ⟨d', rfl, hd, hg⟩
  have hlo : w.heap.size ≤ v2.heap.size := Ga.out.size
  obtain ⟨d1, dn1, dc1, d2, dn2, dc2, d3, dn3, dc3, rfl⟩ := DD.out _ _ _ hd
  have HD := hide hd
  have HLO := hide hlo
  have A3 := hide (World.grownBy_alloc v3 (.cells #[.int .i64 df, .int .i64 dq, .slice d1 dn1 dc1, .slice d2 dn2 dc2, .slice d3 dn3 dc3] 26) none)
  have HXd := hide (heap_alloc_new v3 (.cells #[.int .i64 df, .int .i64 dq, .slice d1 dn1 dc1, .slice d2 dn2 dc2, .slice d3 dn3 dc3] 26))
  have hg2 := grownBy_trans hg A3.out
  have NGa := hide (grownBy_trans Ga.out hg2)
  have NOA := hide (OA.out.grown hg2)
  have NHXa := hide (hp_up HXa.out hg2)
  have NHXc := hide (hp_up HXc.out hg2)
  have OD := hide (hd.at.grown A3.out)
  clear hg hg2 hd hlo Ga OA HXa HXc
  have Ga := NGa
  have OA := NOA
  have HXa := NHXa
  have HXc := NHXc
  clear NGa NOA NHXa NHXc
  go_upto_region 6 with fail
  have HSD := hide (show v3.heap.size ≤ (v3.alloc (.cells #[.int .i64 df, .int .i64 dq, .slice d1 dn1 dc1, .slice d2 dn2 dc2, .slice d3 dn3 dc3] 26)).heap.size by simp)
  generalize v3.alloc (.cells #[.int .i64 df, .int .i64 dq, .slice d1 dn1 dc1, .slice d2 dn2 dc2, .slice d3 dn3 dc3] 26) = wd at *
  generalize hXd : v3.heap.size = Xd at *
  have HXD := hide hXd
  clear hXd
  go_wp2_with (first | fail)
  refine (RG.out _).mono ?_; rintro e v4 ⟨e', rfl, he, hg⟩
  obtain ⟨e1, en1, ec1, e2, en2, ec2, e3, en3, ec3, rfl⟩ := DE.out _ _ _ he
  have A4 := hide (World.grownBy_alloc v4 (.cells #[.int .i64 df, .int .i64 dq, .slice e1 en1 ec1, .slice e2 en2 ec2, .slice e3 en3 ec3] 26) none)
  have HXe := hide (heap_alloc_new v4 (.cells #[.int .i64 df, .int .i64 dq, .slice e1 en1 ec1, .slice e2 en2 ec2, .slice e3 en3 ec3] 26))
  have hg2 := grownBy_trans hg A4.out
  have NGa := hide (grownBy_trans Ga.out hg2)
  have NOA := hide (OA.out.grown hg2)
  have NHXa := hide (hp_up HXa.out hg2)
  have NHXc := hide (hp_up HXc.out hg2)
  have NHXd := hide (hp_up HXd.out hg2)
  have NOD := hide (OD.out.grown hg2)
  have NA3 := hide (grownBy_trans A3.out hg2)
  have OE := hide ((he.at.grown A4.out).mono (show v3.heap.size ≤ wd.heap.size by have := HSD.out; have := HXD.out; omega))
  have HSE := hide (show v3.heap.size ≤ v4.heap.size by have := HSD.out; have := HXD.out; have := hg.size; omega)
  have HLE := hide (show v4.heap.size < (v4.alloc (.cells #[.int .i64 df, .int .i64 dq, .slice e1 en1 ec1, .slice e2 en2 ec2, .slice e3 en3 ec3] 26)).heap.size by simp)
  clear hg hg2 he Ga OA HXa HXc HXd OD A3 A4
  have Ga := NGa
  have OA := NOA
  have HXa := NHXa
  have HXc := NHXc
  have HXd := NHXd
  have OD := NOD
  have A3 := NA3
  clear NGa NOA NHXa NHXc NHXd NOD NA3
  go_upto_region 7 with fail
  generalize v4.alloc (.cells #[.int .i64 df, .int .i64 dq, .slice e1 en1 ec1, .slice e2 en2 ec2, .slice e3 en3 ec3] 26) = we at *
  generalize v4.heap.size = Xe at *
  obtain ⟨U, hU, F, HF, HR⟩ := class_of we
  have FA := hide (fun u => box5 (hp_up HXa.out (HF.out u)))
  have FC := hide (fun u => box5 (hp_up HXc.out (HF.out u)))
  have FD := hide (fun u => box5 (hp_up HXd.out (HF.out u)))
  have FE := hide (fun u => box5 (hp_up HXe.out (HF.out u)))
  have fa0 := fun u => (FA.out u).1
  have fa1 := fun u => (FA.out u).2.1
  have fa2 := fun u => (FA.out u).2.2.1
  have fa3 := fun u => (FA.out u).2.2.2.1
  have fa4 := fun u => (FA.out u).2.2.2.2
  have fc0 := fun u => (FC.out u).1
  have fc1 := fun u => (FC.out u).2.1
  have fc2 := fun u => (FC.out u).2.2.1
  have fc3 := fun u => (FC.out u).2.2.2.1
  have fc4 := fun u => (FC.out u).2.2.2.2
  have fd0 := fun u => (FD.out u).1
  have fd1 := fun u => (FD.out u).2.1
  have fd2 := fun u => (FD.out u).2.2.1
  have fd3 := fun u => (FD.out u).2.2.2.1
  have fd4 := fun u => (FD.out u).2.2.2.2
  have fe0 := fun u => (FE.out u).1
  have fe1 := fun u => (FE.out u).2.1
  have fe2 := fun u => (FE.out u).2.2.1
  have fe3 := fun u => (FE.out u).2.2.2.1
  have fe4 := fun u => (FE.out u).2.2.2.2
  have K13 : Hid (∀ u, Calls Tryd.prog 16 #[(.agg #[.int .i64 cf, .int .i64 cq, .slice c1 cn1 cc1, .slice c2 cn2 cc2, .slice c3 cn3 cc3])] (F u) fun e w' => e = .returned (.int .i64 ck) ∧ (F u).grownBy w' none) := fun u => RK.out _ (grownBy_trans Ga.out (HF.out u))
  have K14 : Hid (∀ u x y, (x = (.agg #[.int .i64 df, .int .i64 dq, .slice d1 dn1 dc1, .slice d2 dn2 dc2, .slice d3 dn3 dc3]) ∧ y = (.agg #[.int .i64 df, .int .i64 dq, .slice e1 en1 ec1, .slice e2 en2 ec2, .slice e3 en3 ec3])) ∨ (x = (.agg #[.int .i64 cf, .int .i64 cq, .slice a1 an1 ac1, .slice a2 an2 ac2, .slice a3 an3 ac3]) ∧ y = (.agg #[.int .i64 cf, .int .i64 cq, .slice c1 cn1 cc1, .slice c2 cn2 cc2, .slice c3 cn3 cc3])) → Calls Tryd.prog 17 #[x, y] (F u) fun e w' => e = .returned (.bool true) ∧ (F u).grownBy w' none) := fun u x y h => by
    rcases h with ⟨rfl, rfl⟩ | ⟨rfl, rfl⟩
    · exact SD.out _ _ _ _ _ (OD.out.grown (HF.out u)) (OE.out.grown (HF.out u))
    · exact SC.out _ _ _ (grownBy_trans Ga.out (HF.out u)) (OA.out.grown (HF.out u))
  refine wp_region_quiet_in F (by kernel_rfl) (by kernel_rfl) (HR.out _ (drew_grown _)) ?_
  repeat (go_big_quiet_step (first | (go_at_call 15; exact calls_in HR (HF.out _) (NUM.out _ _)) | (go_at_call 16; exact calls_in HR (HF.out _) (K13.out _)) | (go_at_call 17; exact calls_in HR (HF.out _) (K14.out _ _ _ (by first | exact .inl ⟨rfl, rfl⟩ | exact .inr ⟨rfl, rfl⟩)))))
  refine wpQuiet_nil ?_
  intro _ hwq
  obtain ⟨uq, hwq2⟩ := hwq
  subst hwq2
  have GQ := hide (HF.out uq)
  have HXd7 := hide (hp_up HXd.out GQ.out)
  have HXe7 := hide (hp_up HXe.out GQ.out)
  have OE7 := hide (OE.out.grown GQ.out)
  have GA7 := hide (grownBy_trans Ga.out GQ.out)
  have G37 := hide (grownBy_trans A3.out GQ.out)
  have HLE7 := hide (show Xe < (F uq).heap.size by have := HLE.out; have := GQ.out.size; omega)
  generalize F uq = w7 at *
  clear K13 K14 fa0 fa1 fa2 fa3 fa4 fc0 fc1 fc2 fc3 fc4 fd0 fd1 fd2 fd3 fd4 fe0 fe1 fe2 fe3 fe4 FA FC FD FE HF HR hU uq GQ HLE OE
  obtain ⟨x0, x1, x2, x3, x4⟩ := box5 HXd7.out
  go_wp2_with (first | fail)
  refine (SPC.out _ _ _ _ HD.out G37.out).mono ?_; rintro e w8 ⟨rfl, hsh⟩
  have G8 := hide (hsh.below GA7.out HLO.out)
  have HXe8 := hide ((hsh.block Xe HLE7.out (.inr HSE.out)).trans HXe7.out)
  have OE8 := hide (OE7.out.kept (fun g h1 h2 => hsh.block g h2 (.inr h1)))
  clear hsh x0 x1 x2 x3 x4 HXd7 HXe7 OE7 GA7 G37 HLE7
  go_wp2_with (first | fail)
  refine (CG.out _ G8.out).mono ?_; rintro e w9 ⟨z', rfl, hz, hg⟩
  obtain ⟨z1, zn1, zc1, z2, zn2, zc2, z3, zn3, zc3, rfl⟩ := DD.out _ _ _ hz
  have A5 := hide (World.grownBy_alloc w9 (.cells #[.int .i64 df, .int .i64 dq, .slice z1 zn1 zc1, .slice z2 zn2 zc2, .slice z3 zn3 zc3] 26) none)
  have HXz := hide (heap_alloc_new w9 (.cells #[.int .i64 df, .int .i64 dq, .slice z1 zn1 zc1, .slice z2 zn2 zc2, .slice z3 zn3 zc3] 26))
  have hg2 := grownBy_trans hg A5.out
  have G9 := hide (grownBy_trans G8.out hg2)
  have HXe9 := hide (hp_up HXe8.out hg2)
  have S9 := hide (SD.out _ _ _ _ _ (hz.at.grown A5.out) (OE8.out.grown hg2))
  clear hg hg2 hz A5
  go_upto_region 11 with fail
  generalize w9.alloc (.cells #[.int .i64 df, .int .i64 dq, .slice z1 zn1 zc1, .slice z2 zn2 zc2, .slice z3 zn3 zc3] 26) = wz at *
  generalize w9.heap.size = Xz at *
  obtain ⟨x0, x1, x2, x3, x4⟩ := box5 HXz.out
  obtain ⟨y0, y1, y2, y3, y4⟩ := box5 HXe9.out
  go_wp2_with (first | (go_at_call 17; refine S9.out.mono ?_; rintro e q1 ⟨rfl, hg⟩; have G10 := hide (grownBy_trans G9.out hg); clear hg) | (go_at_call 19; refine (CA.out _ G10.out).mono ?_; rintro e q2 ⟨rfl, hg⟩; have G11 := hide (grownBy_trans G10.out hg); clear hg))
  go_ret
  exact ⟨rfl, G11.out⟩
#print axioms configs_any
end Go.Proofs.YtgaegggiehhcpaaDoor.R5
