/- The walk of wainwrightlaw.SlotSays: it answers true, and nothing that was there has turned. -/
import Derived.Test.YtanpglfpopbfkaaSlotted
import Derived.Test.YtanpglfpopbfkaaRClr
import Derived.Test.YtanpglfpopbfkaaRSlot
import Derived.Test.YtanpglfpopbfkaaRFill
import Derived.Test.YtanpglfpopbfkaaRImg
import Derived.Test.YtanpglfpopbfkaaRefs
import Derived.Deep.DeepCutAuto
namespace Go.Proofs.Ytanpglfpopbfkaa
open Go.RowKit
attribute [local go_sem ↓] Go.wp_at_zero Go.wp_at_succ

theorem progS_len (ws : List Int) (f p : Int) (words : List Int) : (progS ws f p words).1.length ≤ ws.length := by
  unfold progS
  split
  · simp
  · split
    · simp
    · split
      · simp
      · rw [chg_length]; exact Nat.le_refl _

theorem clrS_len (ws : List Int) (f s : Int) : (clrS ws f s).1.length ≤ ws.length := by
  unfold clrS
  split
  · simp
  · exact clrAt_len _ _ _ _

theorem fillS_len (ws : List Int) (f s at' : Int) (words : List Int) : (fillS ws f s at' words).1.length ≤ ws.length := by
  unfold fillS
  split
  · simp
  · split
    · simp
    · exact progS_len _ _ _ _

theorem sealS_len (ws : List Int) (f s long name : Int) : (sealS ws f s long name).1.length ≤ ws.length := by
  unfold sealS
  split
  · simp
  · split
    · simp
    · exact progS_len _ _ _ _

set_option maxRecDepth 100000 in
set_option maxHeartbeats 8000000 in
theorem slotSays_any (a : Option Addr) (n c : Nat) (ws : List Int) (fuel s pl : Int) (a2 : Option Addr) (n2 c2 : Nat) (words : List Int) (long name : Int) (w : World)
    (h : IsInts w a ws) (hn : ws.length = n) (hm : c ≤ maxLen) (hcap : n ≤ c) (h2 : IsInts w a2 words) (hn2 : words.length = n2) (hm2 : n2 ≤ maxLen) (hroom : n * 8 ≤ 140737488351232) :
    Calls Try.prog 12 #[.agg #[.slice a n c, .int .i64 fuel], .int .i64 s, .int .i64 pl, .slice a2 n2 c2, .int .i64 long, .int .i64 name] w fun e w' => e = .returned (.bool true) ∧ Below w.heap.size w w' := by
  have hmn : n ≤ maxLen := Nat.le_trans hcap hm
  have hw : Below w.heap.size w (w.alloc (.cells #[.slice a n c, .int .i64 fuel] 28)) := (Below.refl _ _).alloc (Nat.le_refl _) _
  have V3 : FBox (w.alloc (.cells #[.slice a n c, .int .i64 fuel] 28)) w.heap.size a n c fuel := heap_alloc_last _ _
  have HN := hide hn
  have HN2 := hide hn2
  clear hn hn2
  obtain ⟨rA, hrA⟩ : ∃ rA, rA = clrS ws fuel s := ⟨_, rfl⟩
  obtain ⟨rB, hrB⟩ : ∃ rB, rB = fillS ws fuel s pl words := ⟨_, rfl⟩
  obtain ⟨rC, hrC⟩ : ∃ rC, rC = sealS ws fuel s long name := ⟨_, rfl⟩
  obtain ⟨rD, hrD⟩ : ∃ rD, rD = bodyS ws fuel s long := ⟨_, rfl⟩
  obtain ⟨rE, hrE⟩ : ∃ rE, rE = imgS ws fuel s := ⟨_, rfl⟩
  have lenA : rA.1.length ≤ maxLen := by rw [hrA]; exact Nat.le_trans (clrS_len _ _ _) (by rw [HN.out]; exact hmn)
  have lenB : rB.1.length ≤ maxLen := by rw [hrB]; exact Nat.le_trans (fillS_len _ _ _ _ _) (by rw [HN.out]; exact hmn)
  have lenC : rC.1.length ≤ maxLen := by rw [hrC]; exact Nat.le_trans (sealS_len _ _ _ _ _) (by rw [HN.out]; exact hmn)
  have LenA := hide lenA
  have LenB := hide lenB
  have LenC := hide lenC
  clear lenA lenB lenC
  have KA := hide (fun (W : World) (ao : Option Addr) (co : Nat) (i : IsInts W ao ws) (hc : n ≤ co) => clear_any ao n co ws fuel s W i HN.out hmn hc)
  have KB := hide (fun (W : World) (ao : Option Addr) (co : Nat) (i : IsInts W ao ws) (i2 : IsInts W a2 words) => fill_any ao n co ws fuel s pl a2 n2 c2 words W i HN.out hmn i2 HN2.out hm2)
  have KC := hide (fun (W : World) (ao : Option Addr) (co : Nat) (i : IsInts W ao ws) => seal_any ao n co ws fuel s long name W i HN.out hmn)
  have KD := hide (fun (W : World) (ao : Option Addr) (co : Nat) (i : IsInts W ao ws) (hc : n ≤ co) => bodyOf_any ao n co ws fuel s long W i HN.out hmn hc)
  have KE := hide (fun (W : World) (ao : Option Addr) (co : Nat) (i : IsInts W ao ws) (hc : n ≤ co) => image_any ao n co ws fuel s W i HN.out hmn hc)
  rw [← hrA] at KA
  rw [← hrB] at KB
  rw [← hrC] at KC
  rw [← hrD] at KD
  rw [← hrE] at KE
  have HrA := hide hrA
  have HrB := hide hrB
  have HrC := hide hrC
  have HrD := hide hrD
  have HrE := hide hrE
  clear hrA hrB hrC hrD hrE
  go_enter Try.func12, Try.ntmps12
  go_wp2_with fail
  generalize w.alloc (.cells #[.slice a n c, .int .i64 fuel] 28) = W at *
  refine (ownFlash_any a n c ws fuel W (h.below hw) HN.out hroom).mono ?_
  rintro e w1 ⟨g, c', hg, hc', rfl, how, hb1⟩
  have al1 := (Below.refl w1.heap.size w1).alloc (Nat.le_refl _) (.cells #[.slice (some ⟨g, 0, none⟩) n c', .int .i64 fuel] 28)
  replace V3 := (V3.below hb1).below al1
  replace hw := (hw.trans (hb1.mono hw.size)).alloc (Nat.le_trans hw.size hb1.size) (.cells #[.slice (some ⟨g, 0, none⟩) n c', .int .i64 fuel] 28)
  have V7 : FBox (w1.alloc (.cells #[.slice (some ⟨g, 0, none⟩) n c', .int .i64 fuel] 28)) w1.heap.size (some ⟨g, 0, none⟩) n c' fuel := heap_alloc_last _ _
  have io := how.isInts.below al1
  clear hb1 al1 how
  go_wp2_with fail
  generalize w1.alloc (.cells #[.slice (some ⟨g, 0, none⟩) n c', .int .i64 fuel] 28) = w2 at *
  refine (unhide KA w2 _ c' io hc').mono ?_
  rintro e w3 ⟨⟨aA, nA, cA, rfl, hiA, hnA, hcA, hfA⟩, hbA⟩
  have hba := hbA.alloc hbA.size (.cells #[.slice aA nA cA, .int .i64 rA.2.1] 28)
  have VA : FlV (w3.alloc (.cells #[.slice aA nA cA, .int .i64 rA.2.1] 28)) w3.heap.size rA.1 rA.2.1 := flVar_new rA.2.1 hiA hnA hcA (freshA0 _)
  replace V3 := V3.below hba
  replace V7 := V7.below hba
  replace io := io.below hba
  replace hw := hw.trans (hba.mono hw.size)
  clear hbA hba hiA hnA hcA hfA KA
  have x0 := blk_cell V7 0 _ rfl
  have x1 := blk_cell V7 1 _ rfl
  go_upto_region 3 with fail
  generalize w3.alloc (.cells #[.slice aA nA cA, .int .i64 rA.2.1] 28) = w4 at *
  go_wp2_with fail
  refine (unhide KB w4 _ c' io (h2.below hw)).mono ?_
  rintro e w5 ⟨⟨aB, nB, cB, rfl, hiA, hnA, hcA, hfA⟩, hbA⟩
  have hba := hbA.alloc hbA.size (.cells #[.slice aB nB cB, .int .i64 rB.2.1] 28)
  have VB : FlV (w5.alloc (.cells #[.slice aB nB cB, .int .i64 rB.2.1] 28)) w5.heap.size rB.1 rB.2.1 := flVar_new rB.2.1 hiA hnA hcA (freshA0 _)
  replace V3 := V3.below hba
  replace V7 := V7.below hba
  replace VA := FlVar.below VA hba
  replace io := io.below hba
  replace hw := hw.trans (hba.mono hw.size)
  clear hbA hba hiA hnA hcA hfA KB x0 x1
  have x0 := blk_cell V7 0 _ rfl
  have x1 := blk_cell V7 1 _ rfl
  go_upto_region 4 with fail
  generalize w5.alloc (.cells #[.slice aB nB cB, .int .i64 rB.2.1] 28) = w6 at *
  go_wp2_with fail
  refine (unhide KC w6 _ c' io).mono ?_
  rintro e w7 ⟨⟨aC, nC, cC, rfl, hiA, hnA, hcA, hfA⟩, hbA⟩
  have hba := hbA.alloc hbA.size (.cells #[.slice aC nC cC, .int .i64 rC.2.1] 28)
  have VC : FlV (w7.alloc (.cells #[.slice aC nC cC, .int .i64 rC.2.1] 28)) w7.heap.size rC.1 rC.2.1 := flVar_new rC.2.1 hiA hnA hcA (freshA0 _)
  replace V3 := V3.below hba
  replace V7 := V7.below hba
  replace VA := FlVar.below VA hba
  replace VB := FlVar.below VB hba
  replace io := io.below hba
  replace hw := hw.trans (hba.mono hw.size)
  clear hbA hba hiA hnA hcA hfA KC x0 x1
  have x0 := blk_cell V7 0 _ rfl
  have x1 := blk_cell V7 1 _ rfl
  go_upto_region 5 with fail
  generalize w7.alloc (.cells #[.slice aC nC cC, .int .i64 rC.2.1] 28) = w8 at *
  go_wp2_with fail
  refine (unhide KD w8 _ c' io hc').mono ?_
  rintro e w9 ⟨⟨aD, nD, cD, rfl, hiD, hnD, hcD, hfD⟩, hb9⟩
  have HND := hide hnD
  replace V3 := V3.below hb9
  replace V7 := V7.below hb9
  replace VA := FlVar.below VA hb9
  replace VB := FlVar.below VB hb9
  replace VC := FlVar.below VC hb9
  replace io := io.below hb9
  replace hw := hw.trans (hb9.mono hw.size)
  clear hb9 hnD hfD KD x0 x1
  have x0 := blk_cell V7 0 _ rfl
  have x1 := blk_cell V7 1 _ rfl
  go_upto_region 6 with fail
  go_wp2_with fail
  refine (unhide KE w9 _ c' io hc').mono ?_
  rintro e w10 ⟨⟨aE, nE, cE, rfl, hiE, hnE, hcE, hfE⟩, hb10⟩
  have HNE := hide hnE
  have hba := hb10.alloc hb10.size (.cells #[.slice none 0 0, .int .i64 0] 28)
  have VN : FBox (w10.alloc (.cells #[.slice none 0 0, .int .i64 0] 28)) w10.heap.size none 0 0 0 := heap_alloc_last _ _
  replace V3 := V3.below hba
  replace V7 := V7.below hba
  replace VA := FlVar.below VA hba
  replace VB := FlVar.below VB hba
  replace VC := FlVar.below VC hba
  replace io := io.below hba
  replace hiD := hiD.below hba
  replace hiE := hiE.alloc (.cells #[.slice none 0 0, .int .i64 0] 28)
  replace hw := hw.trans (hba.mono hw.size)
  clear hb10 hba hnE hfE KE x0 x1
  have x0 : (w10.alloc (.cells #[.slice none 0 0, .int .i64 0] 28)).cell? ⟨w.heap.size, 0, none⟩ = some (.slice a n c) := blk_cell V3 0 _ rfl
  have x1 : (w10.alloc (.cells #[.slice none 0 0, .int .i64 0] 28)).cell? ⟨w.heap.size, 1, none⟩ = some (.int .i64 fuel) := blk_cell V3 1 _ rfl
  go_upto_region 8 with fail
  generalize w10.alloc (.cells #[.slice none 0 0, .int .i64 0] 28) = w11 at *
  obtain ⟨bad, hbad⟩ : ∃ bad, bad = slotE ws fuel s := ⟨_, rfl⟩
  have KS := hide (refCheckSlot_any a n c ws fuel s w11 (h.below hw) HN.out hmn)
  rw [← hbad] at KS
  have HBad := hide hbad
  clear hbad
  go_wp2_with fail
  refine (unhide KS).mono ?_
  rintro e w12 ⟨rfl, hb12⟩
  replace V3 := V3.below hb12
  replace V7 := V7.below hb12
  replace VA := FlVar.below VA hb12
  replace VB := FlVar.below VB hb12
  replace VC := FlVar.below VC hb12
  replace VN := VN.below hb12
  replace io := io.below hb12
  replace hiD := hiD.below hb12
  replace hiE := hiE.below hb12
  replace hw := hw.trans (hb12.mono hw.size)
  clear hb12 x0 x1 KS
  go_upto_region 9 with fail
  go_cut [84] (fun v84 wx => v84 = .bool false ∧ Below w12.heap.size w12 wx)
  case first =>
    go_wp2_with fail
    refine (slotted_any _).mono ?_
    rintro e wa ⟨rfl, hba⟩
    have y0 := blk_cell (V3.below hba) 0 _ rfl
    have y1 := blk_cell (V3.below hba) 1 _ rfl
    have o0 := blk_cell (V7.below hba) 0 _ rfl
    have o1 := blk_cell (V7.below hba) 1 _ rfl
    go_wp2_with fail
    refine (refSame_yes _ n c' ws fuel a n c wa (io.below hba) HN.out ((h.below hw).below hba) HN.out (by rw [HN.out]; exact hmn)).mono ?_
    rintro e wd ⟨rfl, hbd⟩
    go_wp2_with fail
    go_meet
    case rel => exact ⟨rfl, hba.trans (hbd.mono hba.size)⟩
  case rest =>
  obtain ⟨rfl, hbc⟩ := hcut
  obtain ⟨w13, rfl⟩ : ∃ w13 : World, w13 = wc := ⟨_, rfl⟩
  replace V3 := V3.below hbc
  replace VA := FlVar.below VA hbc
  replace VB := FlVar.below VB hbc
  replace VC := FlVar.below VC hbc
  replace VN := VN.below hbc
  replace hiD := hiD.below hbc
  replace hiE := hiE.below hbc
  replace hw := hw.trans (hbc.mono hw.size)
  clear hbc io V7
  obtain ⟨aA, nA, cA, bA, hiA, hnA, hcA, -⟩ := VA
  obtain ⟨aB, nB, cB, bB, hiB, hnB, hcB, -⟩ := VB
  obtain ⟨aC, nC, cC, bC, hiC, hnC, hcC, -⟩ := VC
  have HNA := hide hnA
  have HNB := hide hnB
  have HNC := hide hnC
  have BA := hide bA
  have BB := hide bB
  have BC := hide bC
  clear hnA hnB hnC bA bB bC
  by_cases hb0 : bad = 0
  rotate_left
  · as_aux_lemma =>
      have hb0' : (bad != 0) = true := by simpa using hb0
      have hne : slotE ws fuel s ≠ 0 := by rw [← HBad.out]; exact hb0
      have eA : rA = ([], 0, bad) := by rw [HrA.out, HBad.out]; unfold clrS; rw [if_pos hne]
      have eB : rB = ([], 0, bad) := by rw [HrB.out, HBad.out]; unfold fillS; rw [if_pos hne]
      have eC : rC = ([], 0, bad) := by rw [HrC.out, HBad.out]; unfold sealS; rw [if_pos hne]
      have eD : rD = ([], bad) := by rw [HrD.out, HBad.out]; unfold bodyS; rw [if_pos hne]
      have eE : rE = ([], 0, bad) := by rw [HrE.out, HBad.out]; unfold imgS; rw [if_pos hne]
      subst eA eB eC eD eE
      obtain rfl : 0 = nD := HND.out
      obtain rfl : 0 = nE := HNE.out
      have t0 := blk_cell BA.out 0 _ rfl
      have t1 := blk_cell BA.out 1 _ rfl
      have v0 := blk_cell VN 0 _ rfl
      have v1 := blk_cell VN 1 _ rfl
      clear hb0 hne HrA HrB HrC HrD HrE LenA LenB LenC
      go_wp2_with fail
      refine (refSame_yes aA nA cA [] 0 none 0 0 w13 hiA HNA.out (.inl rfl) rfl (by unfold maxLen; simp)).mono ?_
      rintro e wa ⟨rfl, hba⟩
      clear t0 t1 v0 v1
      have t0 := blk_cell (blk_below BB.out hba) 0 _ rfl
      have t1 := blk_cell (blk_below BB.out hba) 1 _ rfl
      have v0 := blk_cell (VN.below hba) 0 _ rfl
      have v1 := blk_cell (VN.below hba) 1 _ rfl
      go_wp2_with fail
      refine (refSame_yes aB nB cB [] 0 none 0 0 wa (hiB.below hba) HNB.out (.inl rfl) rfl (by unfold maxLen; simp)).mono ?_
      rintro e wb ⟨rfl, hbb⟩
      have hab := hba.trans (hbb.mono hba.size)
      clear t0 t1 v0 v1
      have t0 := blk_cell (blk_below BC.out hab) 0 _ rfl
      have t1 := blk_cell (blk_below BC.out hab) 1 _ rfl
      have v0 := blk_cell (VN.below hab) 0 _ rfl
      have v1 := blk_cell (VN.below hab) 1 _ rfl
      go_wp2_with fail
      refine (refSame_yes aC nC cC [] 0 none 0 0 wb (hiC.below hab) HNC.out (.inl rfl) rfl (by unfold maxLen; simp)).mono ?_
      rintro e wd ⟨rfl, hbd⟩
      have had := hab.trans (hbd.mono hab.size)
      go_wp2
      go_ret
      exact ⟨rfl, hw.trans (had.mono hw.size)⟩
  have hb0' : (bad != 0) = false := by simpa using hb0
  have HE0 := hide (show slotE ws fuel s = 0 by rw [← HBad.out]; exact hb0)
  as_aux_lemma =>
    obtain ⟨hck, hl, p0, p1⟩ := slotE_parts HE0.out
    obtain rfl : n = 192 := by rw [← HN.out, hl]
    obtain ⟨sn, rfl⟩ := Int.eq_ofNat_of_zero_le p0
    have hsn : sn ≤ 1 := by omega
    have HCk := hide hck
    have eA : rA = clrAt ws fuel sn 2 := by rw [HrA.out]; unfold clrS; rw [if_neg (by simpa using HE0.out)]
    have KA := hide (fun (W : World) (i : IsInts W a ws) => cleared_any a c ws fuel sn W i HN.out hck hsn)
    have KB := hide (fun (W : World) (i : IsInts W a ws) (i2 : IsInts W a2 words) => filled_any a c ws fuel sn pl a2 n2 c2 words W i HN.out hck hsn i2 HN2.out hm2)
    have KC := hide (fun (W : World) (i : IsInts W a ws) => sealedIn_any a c ws fuel sn long name W i HN.out hck hsn)
    rw [← eA] at KA
    rw [← HrB.out] at KB
    rw [← HrC.out] at KC
    clear hck hl p0 p1 eA hb0
    have x0 : w13.cell? ⟨w.heap.size, 0, none⟩ = some (.slice a 192 c) := blk_cell V3 0 _ rfl
    have x1 : w13.cell? ⟨w.heap.size, 1, none⟩ = some (.int .i64 fuel) := blk_cell V3 1 _ rfl
    go_wp2_with fail
    refine (unhide KA w13 (h.below hw)).mono ?_
    rintro e w14 ⟨⟨dA, mA, fA, rfl, jiA, jnA, jcA, jfA⟩, hbA⟩
    have hba := hbA.alloc hbA.size (.cells #[.slice dA mA fA, .int .i64 rA.2.1] 28)
    have UA : FlV (w14.alloc (.cells #[.slice dA mA fA, .int .i64 rA.2.1] 28)) w14.heap.size rA.1 rA.2.1 := flVar_new rA.2.1 jiA jnA jcA (freshA0 _)
    replace V3 := V3.below hba
    replace BA := hide (blk_below BA.out hba)
    replace BB := hide (blk_below BB.out hba)
    replace BC := hide (blk_below BC.out hba)
    replace hiA := hiA.below hba
    replace hiB := hiB.below hba
    replace hiC := hiC.below hba
    replace hiD := hiD.below hba
    replace hiE := hiE.below hba
    replace hw := hw.trans (hba.mono hw.size)
    clear hbA hba jiA jnA jcA jfA x0 x1 KA
    go_upto_region 14 with fail
    generalize w14.alloc (.cells #[.slice dA mA fA, .int .i64 rA.2.1] 28) = w15 at *
    have x0 : w15.cell? ⟨w.heap.size, 0, none⟩ = some (.slice a 192 c) := blk_cell V3 0 _ rfl
    have x1 : w15.cell? ⟨w.heap.size, 1, none⟩ = some (.int .i64 fuel) := blk_cell V3 1 _ rfl
    go_wp2_with fail
    refine (unhide KB w15 (h.below hw) (h2.below hw)).mono ?_
    rintro e w16 ⟨⟨dB, mB, fB, rfl, jiA, jnA, jcA, jfA⟩, hbA⟩
    have hba := hbA.alloc hbA.size (.cells #[.slice dB mB fB, .int .i64 rB.2.1] 28)
    have UB : FlV (w16.alloc (.cells #[.slice dB mB fB, .int .i64 rB.2.1] 28)) w16.heap.size rB.1 rB.2.1 := flVar_new rB.2.1 jiA jnA jcA (freshA0 _)
    replace V3 := V3.below hba
    replace UA := FlVar.below UA hba
    replace BA := hide (blk_below BA.out hba)
    replace BB := hide (blk_below BB.out hba)
    replace BC := hide (blk_below BC.out hba)
    replace hiA := hiA.below hba
    replace hiB := hiB.below hba
    replace hiC := hiC.below hba
    replace hiD := hiD.below hba
    replace hiE := hiE.below hba
    replace hw := hw.trans (hba.mono hw.size)
    clear hbA hba jiA jnA jcA jfA x0 x1 KB
    go_upto_region 15 with fail
    generalize w16.alloc (.cells #[.slice dB mB fB, .int .i64 rB.2.1] 28) = w17 at *
    have x0 : w17.cell? ⟨w.heap.size, 0, none⟩ = some (.slice a 192 c) := blk_cell V3 0 _ rfl
    have x1 : w17.cell? ⟨w.heap.size, 1, none⟩ = some (.int .i64 fuel) := blk_cell V3 1 _ rfl
    go_wp2_with fail
    refine (unhide KC w17 (h.below hw)).mono ?_
    rintro e w18 ⟨⟨dC, mC, fC, rfl, jiA, jnA, jcA, jfA⟩, hbA⟩
    have hba := hbA.alloc hbA.size (.cells #[.slice dC mC fC, .int .i64 rC.2.1] 28)
    have UC : FlV (w18.alloc (.cells #[.slice dC mC fC, .int .i64 rC.2.1] 28)) w18.heap.size rC.1 rC.2.1 := flVar_new rC.2.1 jiA jnA jcA (freshA0 _)
    replace V3 := V3.below hba
    replace UA := FlVar.below UA hba
    replace UB := FlVar.below UB hba
    replace BA := hide (blk_below BA.out hba)
    replace BB := hide (blk_below BB.out hba)
    replace BC := hide (blk_below BC.out hba)
    replace hiA := hiA.below hba
    replace hiB := hiB.below hba
    replace hiC := hiC.below hba
    replace hiD := hiD.below hba
    replace hiE := hiE.below hba
    replace hw := hw.trans (hba.mono hw.size)
    clear hbA hba jiA jnA jcA jfA x0 x1 KC
    go_upto_region 16 with fail
    generalize w18.alloc (.cells #[.slice dC mC fC, .int .i64 rC.2.1] 28) = w19 at *
    go_cut [187] (fun v187 wx => v187 = .bool false ∧ Below w19.heap.size w19 wx)
    case first =>
      as_aux_lemma =>
        obtain ⟨dA, mA, fA, uA, jiA, jnA, -, -⟩ := UA
        obtain ⟨dB, mB, fB, uB, jiB, jnB, -, -⟩ := UB
        obtain ⟨dC, mC, fC, uC, jiC, jnC, -, -⟩ := UC
        have JA := hide jnA
        have JB := hide jnB
        have JC := hide jnC
        have nA' : (rA.2.2 != rA.2.2) = false := by simp
        have nB' : (rB.2.2 != rB.2.2) = false := by simp
        have nC' : (rC.2.2 != rC.2.2) = false := by simp
        have t0 := blk_cell BA.out 0 _ rfl
        have t1 := blk_cell BA.out 1 _ rfl
        have v0 := blk_cell uA 0 _ rfl
        have v1 := blk_cell uA 1 _ rfl
        clear jnA jnB jnC
        go_wp2_with fail
        refine (refSame_yes aA nA cA rA.1 rA.2.1 dA mA fA w19 hiA HNA.out jiA JA.out LenA.out).mono ?_
        rintro e wa ⟨rfl, hba⟩
        clear t0 t1 v0 v1
        have t0 := blk_cell (blk_below BB.out hba) 0 _ rfl
        have t1 := blk_cell (blk_below BB.out hba) 1 _ rfl
        have v0 := blk_cell (blk_below uB hba) 0 _ rfl
        have v1 := blk_cell (blk_below uB hba) 1 _ rfl
        go_wp2_with fail
        refine (refSame_yes aB nB cB rB.1 rB.2.1 dB mB fB wa (hiB.below hba) HNB.out (jiB.below hba) JB.out LenB.out).mono ?_
        rintro e wb ⟨rfl, hbb⟩
        have hab := hba.trans (hbb.mono hba.size)
        clear t0 t1 v0 v1
        have t0 := blk_cell (blk_below BC.out hab) 0 _ rfl
        have t1 := blk_cell (blk_below BC.out hab) 1 _ rfl
        have v0 := blk_cell (blk_below uC hab) 0 _ rfl
        have v1 := blk_cell (blk_below uC hab) 1 _ rfl
        go_wp2_with fail
        refine (refSame_yes aC nC cC rC.1 rC.2.1 dC mC fC wb (hiC.below hab) HNC.out (jiC.below hab) JC.out LenC.out).mono ?_
        rintro e wd ⟨rfl, hbd⟩
        go_wp2_with fail
        go_meet
        case rel => exact ⟨rfl, hab.trans (hbd.mono hab.size)⟩
    case rest =>
      as_aux_lemma =>
        obtain ⟨rfl, hbc⟩ := hcut
        obtain ⟨w20, rfl⟩ : ∃ w20 : World, w20 = wc := ⟨_, rfl⟩
        replace V3 := V3.below hbc
        replace hiD := hiD.below hbc
        replace hiE := hiE.below hbc
        replace hw := hw.trans (hbc.mono hw.size)
        clear hbc BA BB BC hiA hiB hiC UA UB UC LenA LenB LenC HNA HNB HNC VN
        obtain ⟨p, hp⟩ : ∃ p, p = 68 + 64 * sn := ⟨_, rfl⟩
        obtain ⟨p4, hp4⟩ : ∃ p4, p4 = 64 + 64 * sn := ⟨_, rfl⟩
        have KI := hide (fun (W : World) (i : IsInts W a ws) => imageOf_any a c ws fuel sn p4 W i HN.out (chk_parts HCk.out).2.2.2 hcap hm hsn hp4)
        have HD : Hid (rD = if inB long 0 40 = false then ([], 2) else ((ws.drop p).take long.toNat, 0)) := by
          show _ = _
          rw [HrD.out]
          unfold bodyS
          rw [if_neg (by simpa using HE0.out), show (68 + 64 * (sn : Int)).toNat = p by omega]
        have HE : Hid (rE = if headB ws p4 = false then ([], 0, 4) else ((ws.drop (p4 + 4)).take (ws.getD p4 0).toNat, ws.getD (p4 + 1) 0, 0)) := by
          show _ = _
          rw [HrE.out]
          unfold imgS
          rw [if_neg (by simpa using HE0.out), show (64 + 64 * (sn : Int)).toNat = p4 by omega, show (68 + 64 * (sn : Int)).toNat = p4 + 4 by omega]
        have hp68 : p ≤ 132 := by omega
        have hp64 : p4 ≤ 128 := by omega
        obtain ⟨d, hd⟩ : ∃ d : Int, d = 64 * (sn : Int) := ⟨_, rfl⟩
        have k1 : IntKind.i64.wrap (64 * (sn : Int)) = d := by rw [IntKind.wrap_i64]; omega
        have k2 : IntKind.i64.wrap (68 + d) = (p : Int) := by rw [IntKind.wrap_i64]; omega
        clear HrA HrB HrC HrD HrE hp hp4 hd hsn
        obtain ⟨b, off, rfl⟩ : ∃ b off, a = some ⟨b, off, none⟩ := by
          rcases h with rfl | ⟨b, off, rfl, _⟩
          · have := HN.out; simp at this
          · exact ⟨b, off, rfl⟩
        have x0 : w20.cell? ⟨w.heap.size, 0, none⟩ = some (.slice (some ⟨b, off, none⟩) 192 c) := blk_cell V3 0 _ rfl
        go_upto_region 18 with fail
        go_cut [193] (fun v193 wx => v193 = .bool (!inB long 0 40) ∧ wx = w20)
        case first =>
          by_cases s0 : long < 0
          · go_wp2_with fail
            go_meet
            case rel => exact ⟨congrArg Value.bool (by unfold inB; simp; omega), rfl⟩
          · have s0' : decide (long < 0) = false := by simp; omega
            by_cases s1 : 40 < long
            · go_wp2_with fail
              go_meet
              case rel => exact ⟨congrArg Value.bool (by unfold inB; simp; omega), rfl⟩
            · have s1' : decide (40 < long) = false := by simp; omega
              go_wp2_with fail
              go_meet
              case rel => exact ⟨congrArg Value.bool (by unfold inB; simp; omega), rfl⟩
        case rest =>
        obtain ⟨rfl, hwc⟩ := hcut
        subst hwc
        obtain ⟨w20, rfl⟩ : ∃ w20 : World, w20 = wc := ⟨_, rfl⟩
        go_upto_if 193 with fail
        go_cut [4] (fun v4 wx => v4 = .int .i64 long ∧ Below w20.heap.size w20 wx)
        case first =>
          have hDD := HD.out
          cases hin : inB long 0 40
          · rw [hin, if_pos rfl] at hDD
            subst hDD
            obtain rfl : 0 = nD := HND.out
            clear hin
            go_wp2_with fail
            go_meet
            case rel => exact ⟨rfl, Below.refl _ _⟩
          · rw [hin, if_neg (by simp)] at hDD
            have q : 0 ≤ long ∧ long ≤ 40 := by unfold inB at hin; simpa using hin
            obtain ⟨m, rfl⟩ := Int.eq_ofNat_of_zero_le q.1
            rw [Int.toNat_natCast] at hDD
            have hlen : ((ws.drop p).take m).length = m := by have := HN.out; simp; omega
            have hND := HND.out
            rw [hDD] at hiD hND
            have hnd : m = nD := by rw [← hND]; exact hlen.symm
            have dz : rD.2 = 0 := by rw [hDD]
            have dz' : (rD.2 != 0) = false := by simpa using dz
            obtain ⟨q4, hq4⟩ : ∃ q4, q4 = p + m := ⟨_, rfl⟩
            have k3 : IntKind.i64.wrap ((p : Int) + (m : Int)) = (q4 : Int) := by rw [IntKind.wrap_i64]; omega
            have z1 : (p : Int) ≤ (q4 : Int) := by omega
            have z2 : (q4 : Int) ≤ (c : Int) := by omega
            have z3 : ¬ c = p := by omega
            have HQ := hide (equal_at aD (some ⟨b, off + p, none⟩) nD (q4 - p) cD (c - p) ((ws.drop p).take m) ((ws.drop p).take m) true w20 hiD (((h.below hw).drop p).take m) hND (by rw [hlen]; omega) (eqL_self _) (by rw [← hND, hlen]; exact Nat.le_trans (show m ≤ 40 by omega) (by decide)) (by rw [show q4 - p = m by omega]; exact Nat.le_trans (show m ≤ 40 by omega) (by decide)))
            clear hin hDD hlen hND hnd dz hq4 hiD
            go_wp2_with fail
            refine (unhide HQ).mono ?_
            rintro e wa ⟨rfl, q1, rfl⟩
            go_wp2_with fail
            go_meet
            case rel => exact ⟨rfl, below_drewN (Below.refl _ _) q1⟩
        case rest =>
        obtain ⟨rfl, hbc⟩ := hcut
        obtain ⟨w21, rfl⟩ : ∃ w21 : World, w21 = wc := ⟨_, rfl⟩
        replace V3 := V3.below hbc
        replace hiE := hiE.below hbc
        replace hw := hw.trans (hbc.mono hw.size)
        clear hbc x0 hiD HND HD
        have x0 : w21.cell? ⟨w.heap.size, 0, none⟩ = some (.slice (some ⟨b, off, none⟩) 192 c) := blk_cell V3 0 _ rfl
        have x1 : w21.cell? ⟨w.heap.size, 1, none⟩ = some (.int .i64 fuel) := blk_cell V3 1 _ rfl
        go_upto_region 23 with fail
        go_wp2_with fail
        refine (unhide KI w21 (h.below hw)).mono ?_
        rintro e w22 ⟨⟨aI, nI, cI, rfl, hiI, hnI⟩, hb22⟩
        have hwZ := hw.trans (hb22.mono hw.size)
        have hEE := HE.out
        cases hh : headB ws p4
        · rw [hh, if_pos rfl] at hEE
          subst hEE
          obtain rfl : 0 = nE := HNE.out
          have hT : Hid (refImgT ws p4 = ([], 0)) := by show _ = _; unfold refImgT; rw [if_pos hh]
          rw [hT.out]
          clear hh hnI hiI KI HE
          go_wp2
          go_ret
          exact ⟨rfl, hwZ⟩
        · rw [hh, if_neg (by simp)] at hEE
          have hT : Hid (refImgT ws p4 = ((ws.drop (p4 + 4)).take (ws.getD p4 0).toNat, ws.getD (p4 + 1) 0)) := by show _ = _; unfold refImgT; rw [if_neg (by simp [hh])]
          have hsl : sealB (ws.getD p4 0) (ws.getD (p4 + 1) 0) = true := by unfold headB at hh; simp only [Bool.and_eq_true] at hh; exact hh.1
          have q0 : (1 ≤ ws.getD p4 0 ∧ ws.getD p4 0 ≤ 40) ∧ 1 ≤ ws.getD (p4 + 1) 0 := by unfold sealB inB at hsl; simp only [Bool.and_eq_true, decide_eq_true_eq] at hsl; exact ⟨hsl.1, hsl.2.1⟩
          have hl40 : ((ws.drop (p4 + 4)).take (ws.getD p4 0).toNat).length ≤ maxLen := Nat.le_trans (by rw [List.length_take]; exact Nat.min_le_left _ _) (Nat.le_trans (show (ws.getD p4 0).toNat ≤ 40 by omega) (by decide))
          rw [hT.out] at hiI hnI
          rw [hT.out]
          subst hEE
          have hne : HNE.out = HNE.out := rfl
          have hNE := HNE.out
          generalize (ws.drop (p4 + 4)).take (ws.getD p4 0).toNat = xs at *
          generalize ws.getD (p4 + 1) 0 = nm at *
          have hz : (nm == 0) = false := by simp; omega
          have HQ := hide (equal_at aE aI nE nI cE cI xs xs true w22 (hiE.below hb22) hiI hNE hnI (eqL_self _) (by rw [← hNE]; exact hl40) (by rw [← hnI]; exact hl40))
          clear hh hnI hiI KI HE hsl hl40 hNE hne HNE
          go_wp2_with fail
          refine (unhide HQ).mono ?_
          rintro e wa ⟨rfl, q1, rfl⟩
          go_wp2
          go_ret
          exact ⟨rfl, below_drewN hwZ q1⟩

end Go.Proofs.Ytanpglfpopbfkaa
