/- The contract of wainwrightref.RecordsOf: the records, and where the next one goes. -/
import Derived.Test.YtgngpmgjoifepaaGreatDoorPv14
import Derived.Deep.DeepCutAuto
namespace Go.Proofs.YtgngpmgjoifepaaGreatDoor
open Go.RowKit
attribute [local go_sem ↓] Go.wp_at_zero Go.wp_at_succ

def posS (ws : List Int) : Int := if cleanS (restS ws) = true then (headP ws : Int) else -1

def RecsOfAns (w : World) (ws : List Int) (e : Ending) (w' : World) : Prop :=
  (∃ a n c, e = .returned (.tuple #[.slice a n c, .int .i64 (posS ws)]) ∧ IsRecs w' a (logR ws) ∧ (logR ws).length = n ∧ n ≤ c ∧ c ≤ maxLen) ∧ Below w.heap.size w w'

def fromP (ws : List Int) (p E : Nat) : List Int := (ws.drop p).take (E - p)
theorem fromP_length {ws : List Int} {p E : Nat} (h : E ≤ ws.length) : (fromP ws p E).length = E - p := by simp [fromP]; omega
theorem fromP_get {ws : List Int} {p E i : Nat} (hi : i < E - p) : (fromP ws p E).getD i 0 = ws.getD (p + i) 0 := by
  unfold fromP
  simp only [List.getD_eq_getElem?_getD]
  rw [List.getElem?_take_of_lt hi, List.getElem?_drop]
theorem fromP_drop {ws : List Int} {p E k : Nat} : (fromP ws p E).drop k = fromP ws (p + k) E := by
  unfold fromP
  rw [List.drop_take, List.drop_drop]
  congr 1
  omega
theorem fromP_words {ws : List Int} {p E k : Nat} (h : p + 1 + k ≤ E) : ((fromP ws p E).drop 1).take k = (ws.drop (p + 1)).take k := by
  rw [fromP_drop]
  unfold fromP
  rw [List.take_take]
  congr 1
  omega
theorem secL_from (ws : List Int) (s : Nat) : secL ws s = fromP ws (s * 32 + 1) (s * 32 + 32) := by
  unfold secL fromP
  congr 1
  omega

set_option maxRecDepth 100000 in
set_option maxHeartbeats 8000000 in
theorem recordsOf_any (a : Option Addr) (n c : Nat) (ws : List Int) (fuel : Int) (w : World) (h : IsInts w a ws) (hn : ws.length = n) (hcap : n ≤ c) (hk : lchk ws fuel = 0) :
    Calls Tryz.prog 70 #[.agg #[.slice a n c, .int .i64 fuel]] w (RecsOfAns w ws) := by
  obtain ⟨ii, hii, iz0, iz1, iz2⟩ := info_parts info_int
  obtain ⟨irr, hir, rz0, rz1, rz2⟩ := info_parts info_record
  have q := lchk_parts hk
  have hokw := q.2.2.2.1
  have hw : Below w.heap.size w (w.alloc (.cells #[.slice a n c, .int .i64 fuel] 27)) := (Below.refl _ _).alloc (Nat.le_refl _) _
  have i0 := h.below hw
  have HG := hide (fun W (h : IsInts W a ws) => refCounts_any a n c ws fuel W h hn (by unfold maxLen; omega) (by omega))
  have B0 := hide (heap_alloc_last w (.cells #[.slice a n c, .int .i64 fuel] 27))
  have n64 : 64 ≤ n := by omega
  have n192 : n ≤ 192 := by omega
  have HN := hide hn
  have hrest0 := restS_few q.2.1
  have hs01 := secN_01 ws
  obtain ⟨s, hs⟩ : ∃ s, s = secN ws := ⟨_, rfl⟩
  have HS := hide hs
  have HPar : Hid (parseS (fromP ws (s * 32 + 1) (s * 32 + 32)) = (logR ws, restS ws)) := by show _ = _; rw [← secL_from, hs]; rfl
  rw [← hs] at hs01
  obtain ⟨b, off, rfl⟩ := h.nonempty (by omega)
  have HI : Hid (IsInts w (some ⟨b, off, none⟩) ws) := h
  clear hn h q hs hk
  go_enter Tryz.func70, Tryz.ntmps70
  go_wp2_with fail
  generalize w.alloc (.cells #[.slice (some ⟨b, off, none⟩) n c, .int .i64 fuel] 27) = W at *
  refine (unhide HG _ i0).mono ?_
  rintro e w1 ⟨rfl, hb1⟩
  rw [← HS.out]
  replace B0 := hide (blk_below B0.out hb1)
  replace hw := hw.trans (hb1.mono hw.size)
  obtain ⟨g, hg⟩ : ∃ g, g = genN ws := ⟨_, rfl⟩
  rw [← hg]
  clear hb1 i0 hg HG
  obtain ⟨E, hE⟩ : ∃ E, E = s * 32 + 32 := ⟨_, rfl⟩
  rw [← hE] at HPar
  have hEn : E ≤ n := by omega
  have hEi : (32 : Int) * (s : Int) + 32 = (E : Int) := by omega
  have hp0 : (32 : Int) * (s : Int) + 1 = ((s * 32 + 1 : Nat) : Int) := by omega
  have hc192 : (E : Int) ≤ (c : Int) := by omega
  have hEs : E ≤ 64 := by omega
  have hhead : Hid (headP ws = E - (restS ws).length) := by show _ = _; unfold headP; rw [← HS.out, hE]; congr 1; omega
  obtain ⟨P0, hP0⟩ : ∃ P0, P0 = s * 32 + 1 := ⟨_, rfl⟩
  rw [← hP0] at HPar hp0
  have hP0E : P0 ≤ E := by omega
  have HRS : Hid (∀ (rs : List (List Int)) {q : List (List Int)} {p : List Int}, (logR ws, restS ws) = (rs ++ q, p) → rs.length ≤ 1000) := fun rs q p h => by
    have h1 := parseS_few (fromP ws P0 E)
    rw [HPar.out, fromP_length (by rw [HN.out]; exact hEn)] at h1
    have h2 := congrArg (fun x => x.1.length) h
    simp at h1 h2
    omega
  clear hs01 hE hP0
  go_wp2
  go_loopw [6, 7] (fun v6 v7 wr => ∃ (rs : List (List Int)) (p : Nat), p ≤ E ∧ v7 = .int .i64 p ∧ MakingR w1 wr v6 rs ∧ Hid ((logR ws, restS ws) = (rs ++ (parseS (fromP ws p E)).1, (parseS (fromP ws p E)).2))) (fun _ v _ => E - (intOf v).toNat)
  case atStart => exact ⟨[], P0, hP0E, rfl, makingR_nil (Below.refl _ _), by show _ = _; rw [HPar.out]; simp⟩
  case round =>
    obtain ⟨rs, p, hpE, rfl, hmk, hp⟩ := hrel
    have hbe := hmk.below
    have BW := hide (blk_below B0.out hbe)
    have x0 := blk_cell BW.out 0 _ rfl
    have hi : Hid (IsInts wr (some ⟨b, off, none⟩) ws) := HI.out.below (hw.trans (hbe.mono hw.size))
    have hlen : Hid ((fromP ws p E).length = E - p) := fromP_length (by rw [HN.out]; exact hEn)
    have HMk := hide hmk
    have hx : Hid (p < E → okW (ws.getD p 0) = true ∧ wr.cell? ⟨b, off + p, none⟩ = some (.int .i64 (ws.getD p 0)) ∧ (fromP ws p E).getD 0 0 = ws.getD p 0) := fun hlt => by
      have hpl : p < ws.length := by rw [HN.out]; omega
      refine ⟨okL_get hokw p hpl, ?_, by rw [fromP_get (by omega), Nat.add_zero]⟩
      rcases hi.out with h | ⟨b', o', e, hc⟩
      { rw [h] at hpl; simp at hpl }
      { cases e; exact hc p hpl }
    clear hmk hbe
    go_upto_region 4 with fail
    go_cut [53] (fun v53 wx => v53 = .bool (decide (longS (fromP ws p E) ≠ 0)) ∧ wx = wr)
    case first =>
      by_cases hlt : p < E
      rotate_left
      {
      have hz : longS (fromP ws p E) = 0 := longS_no (.inl (List.eq_nil_of_length_eq_zero (by rw [hlen.out]; omega)))
      have z0 : ¬ (p : Int) < (E : Int) := by omega
      have HZ := hide hz
      clear hz hlt
      go_wp2
      go_meet
      case rel => exact ⟨congrArg Value.bool (by simp [HZ.out]), rfl⟩
      }
      obtain ⟨k1, k2, k3⟩ := hx.out hlt
      have hne : fromP ws p E ≠ [] := fun e => by have := hlen.out; rw [e] at this; simp at this; omega
      have HNo := hide (@longS_no (fromP ws p E))
      have HYes := hide (longS_yes hne)
      rw [k3, hlen.out] at HNo HYes
      obtain ⟨x, hxx⟩ : ∃ x, x = ws.getD p 0 := ⟨_, rfl⟩
      rw [← hxx] at k1 k2 HNo HYes
      simp only [okW, decide_eq_true_eq] at k1
      have z0 : (p : Int) < (E : Int) := by omega
      have z1 : (p : Int) < (n : Int) := by omega
      have z2 : (0 : Int) ≤ (p : Int) := by omega
      clear hxx k3 hne hlt
      by_cases c1 : 42241 ≤ x
      rotate_left
      {
      have HZ : Hid (longS (fromP ws p E) = 0) := HNo.out (.inr (by omega))
      have c1' : decide (42241 ≤ x) = false := by simpa using c1
      go_wp2
      go_meet
      case rel => exact ⟨congrArg Value.bool (by simp [HZ.out]), rfl⟩
      }
      by_cases c2 : x ≤ 42244
      rotate_left
      {
      have HZ : Hid (longS (fromP ws p E) = 0) := HNo.out (.inr (by omega))
      have c2' : decide (x ≤ 42244) = false := by simpa using c2
      go_wp2
      go_meet
      case rel => exact ⟨congrArg Value.bool (by simp [HZ.out]), rfl⟩
      }
      have z3 : IntKind.i64.wrap ((p : Int) + x) = (p : Int) + x := by rw [IntKind.wrap_i64]; omega
      have z4 : IntKind.i64.wrap ((p : Int) + x - 42240) = (p : Int) + x - 42240 := by rw [IntKind.wrap_i64]; omega
      by_cases c3 : (p : Int) + x - 42240 < (E : Int)
      rotate_left
      {
      have HZ : Hid (longS (fromP ws p E) = 0) := HNo.out (.inr (by omega))
      have c3' : decide ((p : Int) + x - 42240 < (E : Int)) = false := by simpa using c3
      go_wp2
      go_meet
      case rel => exact ⟨congrArg Value.bool (by simp [HZ.out]), rfl⟩
      }
      {
      have HZ : Hid (longS (fromP ws p E) ≠ 0) := by
        have := HYes.out (by omega)
        show ¬ _
        omega
      go_wp2
      go_meet
      case rel => exact ⟨congrArg Value.bool (by simp [HZ.out]), rfl⟩
      }
    case rest =>
      obtain ⟨rfl, hwc⟩ := hcut
      subst hwc
      obtain ⟨wr, rfl⟩ : ∃ wr : World, wr = wc := ⟨_, rfl⟩
      by_cases hz : longS (fromP ws p E) = 0
      {
      have hd : decide (longS (fromP ws p E) ≠ 0) = false := by simp [hz]
      rw [hd]
      have hfin := hp.out
      rw [parseS_stop hz] at hfin
      simp at hfin
      obtain ⟨hf1, hf2⟩ := hfin
      have HCl : Hid (posS ws = if cleanS (fromP ws p E) = true then (p : Int) else -1) := by
        show _ = _
        unfold posS
        rw [hhead.out, hf2, hlen.out]
        congr 1
        omega
      have HLR := hide hf1
      have zE : (p : Int) ≤ (E : Int) := by omega
      have zp0 : (0 : Int) ≤ (p : Int) := by omega
      have zc : ((E : Int) - (p : Int)).toNat = E - p := by omega
      obtain ⟨av, cv, rfl, m1, m2, m3⟩ := HMk.out.isRecs
      have HM3 := hide m3
      have hwr := hw.trans (HMk.out.below.mono hw.size)
      clear hf1 hf2 hd m3 HMk
      by_cases hpc : c = p
      {
      have hdummy : True := trivial
      go_wp2_with fail
      go_loopw [84] (fun v84 wx => ∃ j : Nat, j ≤ E - p ∧ v84 = .int .i64 j ∧ Hid (cleanS ((fromP ws p E).take j) = true) ∧ wr = wx) (fun v _ => E - p - (intOf v).toNat)
      case atStart => exact ⟨0, Nat.zero_le _, rfl, rfl, rfl⟩
      case round =>
        obtain ⟨j, hj, rfl, hcl, rfl⟩ := hrel
        have hjl : ¬ j < E - p := by omega
        have zj : ¬ (j : Int) < ((E - p : Nat) : Int) := by omega
        have HS2 : Hid (cleanS (fromP ws p E) = true) := by
          have := hcl.out
          rw [List.take_of_length_le (by rw [hlen.out]; omega)] at this
          exact this
        go_wp2
        go_ret2
        have hpos : posS ws = (p : Int) := by rw [HCl.out, HS2.out]; rfl
        exact ⟨⟨av, _, cv, by rw [hpos]; rfl, by rw [HLR.out]; exact HM3.out, by rw [HLR.out], m1, m2⟩, hwr⟩
      }
      {
      have hdummy : True := trivial
      go_wp2_with fail
      go_loopw [84] (fun v84 wx => ∃ j : Nat, j ≤ E - p ∧ v84 = .int .i64 j ∧ Hid (cleanS ((fromP ws p E).take j) = true) ∧ wr = wx) (fun v _ => E - p - (intOf v).toNat)
      case atStart => exact ⟨0, Nat.zero_le _, rfl, rfl, rfl⟩
      case round =>
        obtain ⟨j, hj, rfl, hcl, rfl⟩ := hrel
        by_cases hjl : j < E - p
        {
        have hpj : p + j < ws.length := by rw [HN.out]; omega
        have hcell : wr.cell? ⟨b, off + p + j, none⟩ = some (.int .i64 (ws.getD (p + j) 0)) := by
          rcases hi.out with h | ⟨b', o', e, hc⟩
          { rw [h] at hpj; simp at hpj }
          { cases e; rw [Nat.add_assoc]; exact hc (p + j) hpj }
        have hjr : j < (fromP ws p E).length := by rw [hlen.out]; exact hjl
        have hgj : (fromP ws p E)[j] = ws.getD (p + j) 0 := by rw [← getD_at hjr, fromP_get hjl]
        have HGj := hide hgj
        obtain ⟨x, hxx⟩ : ∃ x, x = ws.getD (p + j) 0 := ⟨_, rfl⟩
        rw [← hxx] at hcell HGj
        have zj : (j : Int) < ((E - p : Nat) : Int) := by omega
        clear hxx hgj
        by_cases hx6 : x = 65535
        {
        subst hx6
        have HS2 : Hid (cleanS ((fromP ws p E).take (j + 1)) = true) := cleanS_step hjr hcl.out (by rw [HGj.out]; rfl)
        go_wp2
        go_roundw
        case rel => exact ⟨j + 1, by omega, by go_num, HS2, trivial⟩
        case measure => simp [intOf]; omega
        }
        {
        have hx6' : (x != 65535) = true := by simpa using hx6
        have HS2 : Hid (cleanS (fromP ws p E) = false) := cleanS_stop hjr (by rw [HGj.out]; exact hx6')
        go_wp2
        go_ret2
        have hpos : posS ws = -1 := by rw [HCl.out, HS2.out]; rfl
        exact ⟨⟨av, _, cv, by rw [hpos]; rfl, by rw [HLR.out]; exact HM3.out, by rw [HLR.out], m1, m2⟩, hwr⟩
        }
        }
        {
        have zj : ¬ (j : Int) < ((E - p : Nat) : Int) := by omega
        have HS2 : Hid (cleanS (fromP ws p E) = true) := by
          have := hcl.out
          rw [List.take_of_length_le (by rw [hlen.out]; omega)] at this
          exact this
        go_wp2
        go_ret2
        have hpos : posS ws = (p : Int) := by rw [HCl.out, HS2.out]; rfl
        exact ⟨⟨av, _, cv, by rw [hpos]; rfl, by rw [HLR.out]; exact HM3.out, by rw [HLR.out], m1, m2⟩, hwr⟩
        }
      }
      }
      {
      have hd : decide (longS (fromP ws p E) ≠ 0) = true := by simp [hz]
      rw [hd]
      have hkl := longS_lt (l := fromP ws p E) (by omega)
      have hk4 := longS_le (fromP ws p E)
      rw [hlen.out] at hkl
      have hpE2 : p < E := by omega
      obtain ⟨k1, k2, k3⟩ := hx.out hpE2
      have hne : fromP ws p E ≠ [] := fun e => by have := hlen.out; rw [e] at this; simp at this; omega
      have hxk : ws.getD p 0 - 42240 = (longS (fromP ws p E) : Int) := by
        by_cases hy : 42241 ≤ (fromP ws p E).getD 0 0 ∧ (fromP ws p E).getD 0 0 ≤ 42244 ∧ (fromP ws p E).getD 0 0 - 42240 < (fromP ws p E).length
        { rw [longS_yes hne hy, k3] }
        { exact absurd (longS_no (.inr hy)) hz }
      have hst := parseS_step hz
      obtain ⟨k, hkk⟩ : ∃ k, k = longS (fromP ws p E) := ⟨_, rfl⟩
      rw [← hkk] at hkl hk4 hxk hst hz
      rw [fromP_words (by omega), fromP_drop] at hst
      obtain ⟨r, hr⟩ : ∃ r, r = (ws.drop (p + 1)).take k := ⟨_, rfl⟩
      rw [← hr] at hst
      have hrl : r.length = k := by rw [hr]; simp [HN.out]; omega
      have HP3 : Hid ((logR ws, restS ws) = ((rs ++ [r]) ++ (parseS (fromP ws (p + (1 + k)) E)).1, (parseS (fromP ws (p + (1 + k)) E)).2)) := by
        show _ = _
        rw [hp.out, hst]; simp
      have hrs := HRS.out rs hp.out
      have HR := hide hrl
      have ir : IsInts wr (some ⟨b, off + (p + 1), none⟩) r := by rw [hr]; exact (hi.out.drop (p + 1)).take k
      obtain ⟨x, hxx⟩ : ∃ x, x = ws.getD p 0 := ⟨_, rfl⟩
      rw [← hxx] at k1 k2 hxk
      simp only [okW, decide_eq_true_eq] at k1
      obtain ⟨vs, hvo, hvr⟩ := HMk.out.own
      have HV := hide hvr
      have hsz := HMk.out.below.size
      have z0 : (p : Int) < (n : Int) := by omega
      have z1 : (0 : Int) ≤ (p : Int) := by omega
      have z2 : IntKind.i64.wrap ((p : Int) + 1) = (p : Int) + 1 := by rw [IntKind.wrap_i64]; omega
      have z3 : IntKind.i64.wrap ((p : Int) + 1 + (k : Int)) = (p : Int) + 1 + (k : Int) := by rw [IntKind.wrap_i64]; omega
      have z4 : (p : Int) + 1 ≤ (p : Int) + 1 + (k : Int) := by omega
      have z5 : (p : Int) + 1 + (k : Int) ≤ (c : Int) := by omega
      have z6 : (0 : Int) ≤ (p : Int) + 1 := by omega
      have z7 : ¬ c = p + 1 := by omega
      have z8 : ((p : Int) + 1).toNat = p + 1 := by omega
      have z9 : ((p : Int) + 1 + (k : Int)).toNat = p + 1 + k := by omega
      have z10 : p + 1 + k - (p + 1) = k := by omega
      have z11 : IntKind.i64.wrap (1 + (k : Int)) = 1 + (k : Int) := by rw [IntKind.wrap_i64]; omega
      have z12 : IntKind.i64.wrap ((p : Int) + (1 + (k : Int))) = (p : Int) + (1 + (k : Int)) := by rw [IntKind.wrap_i64]; omega
      have z13 : (0 : Int) ≤ (p : Int) + 1 + (k : Int) := by omega
      have nn : (wr.alloc (.cells #[] 3)).cell? ⟨w.heap.size, 0, none⟩ = some (.slice (some ⟨b, off, none⟩) n c) := blk_cell (blk_alloc BW.out _) 0 _ rfl
      have hrow0 : (wr.alloc (.cells #[] 3)).ownsRow wr.heap.size 3 1 (.slice (some ⟨wr.heap.size, 0, none⟩) 0 0) 0 [] :=
        ⟨rfl, .inr ⟨wr.heap.size, 0, #[], rfl, Nat.le_refl _, heap_alloc_last _ _, Nat.le_refl _, by decide, rfl, rfl⟩⟩
      have hnews0 : ∀ j u, (vals r)[j]? = some u → (wr.alloc (.cells #[] 3)).cell? ((⟨b, off + (p + 1), none⟩ : Addr).add j) = some u := news_ints (ir.alloc _)
      clear hd hst hxx hr hrl hkk hp hlen hx ir hne k3 hvr
      go_wp2_with (at_builtin; refine wpList_append_two _ rfl _ _ 133 25 rfl wr.heap.size 3 3 ii _ 1 8 Tryz.underlying133 Tryz.underlying25 hii iz0 iz1 iz2 rfl (by omega) (.slice (some ⟨wr.heap.size, 0, none⟩) 0 0) 0 [] rfl hrow0 ⟨b, off + (p + 1), none⟩ k (c - (p + 1)) (vals r) rfl (by rw [vals_length, HR.out, Nat.mul_one]) hnews0 (vals_one r) (by omega) (by unfold maxLen; omega) (by omega) (by simp) (wr.heap.size + 1) (by simp) ?_)
      intro g1 cap1 wA hown1 hgrow1 hat1 hlt1
      have hB1 : Below wr.heap.size wr wA := ((Below.refl _ wr).alloc (Nat.le_refl _) _).grown hgrow1 (by simp) (fun k hk => by simp [Value.ownBlock] at hk; omega)
      have q1 := ownCap_of2 (ws := r) hown1 HR.out
      have hB2 : Below wr.heap.size wr (wA.alloc (.cells #[.slice (some ⟨g1, 0, none⟩) k cap1] 133)) := hB1.alloc hB1.size _
      go_wp2_with (at_builtin; refine wpList_append_lies _ rfl _ _ 130 rfl w1.heap.size 133 irr _ 1 24 Tryz.underlying130 hir rz0 rz1 rz2 rfl (by omega) u6 rs.length vs rfl (ownsRow_below hvo hB2) ⟨wA.heap.size, 0, none⟩ 1 1 [.slice (some ⟨g1, 0, none⟩) k cap1] rfl rfl (news_one _ _ _) (one_one _ _ _) (by omega) (by unfold maxLen; omega) (by omega) (by have := hB2.size; omega) (wA.heap.size + 1) (by simp) ?_)
      intro g2 cap2 wB hown2 hgrow2 hat2 hlt2
      have HM2 := hide (MakingR.step HMk.out.below hvo HV.out hB2 (ownCap_below q1.1 ((Below.refl _ _).alloc (Nat.le_refl _) _)) (by rw [HR.out]; exact q1.2.2.1) q1.2.2.2 (by rw [HR.out]; exact hown2) hgrow2)
      clear hown1 hown2 hgrow1 hgrow2 hB1 hB2 q1 hvo hrow0 hnews0 HV nn x0
      go_wp2
      go_roundw
      case rel => exact ⟨rs ++ [r], p + (1 + k), by omega, by simp, HM2.out, HP3⟩
      case measure => simp [intOf]; omega

      }
end Go.Proofs.YtgngpmgjoifepaaGreatDoor
