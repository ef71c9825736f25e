/- The walk of wainwrightlaw.FlashBack: it answers true, and nothing that was there has turned. -/
import Derived.Test.YtanpglfpopbfkaaParts
import Derived.Deep.DeepCutAuto
namespace Go.Proofs.Ytanpglfpopbfkaa
open Go.RowKit

/-- Behind Erase, called in a world W that has grown out of w. -/
theorem erase_from (w : World) (a : Option Addr) (n c : Nat) (ws : List Int) (fuel s : Int) (r : List Int) (f e0 : Int) (hr : eraS ws fuel s = (r, f, e0))
    (h : IsInts w a ws) (hn : ws.length = n) (hm : n ≤ maxLen) (W : World) (hb : Below w.heap.size w W) :
    Calls Try.prog 18 #[.agg #[.slice a n c, .int .i64 fuel], .int .i64 s] W fun e w' =>
      ∃ a' n' c', e = .returned (.tuple #[.agg #[.slice a' n' c', .int .i64 f], .int .i64 e0]) ∧ IsInts w' a' r ∧ r.length = n' ∧ n' ≤ c' ∧ FreshA W.heap.size a' ∧ Below W.heap.size W w' ∧ Below w.heap.size w w' := by
  refine (erase_any a n c ws fuel s W (h.below hb) hn hm).mono ?_
  intro e w' hA
  obtain ⟨a', n', c', h1, h2, h3, h4, h5, h6⟩ := hA.opened hr
  exact ⟨a', n', c', h1, h2, h3, h4, h5, h6, hb.trans (h6.mono hb.size)⟩

/-- Where Erase, with power, says OK it was right, and is done. -/
theorem era_yes {ws : List Int} {s : Int} (h : (eraS ws (-1) s).2.2 = 0) : chk ws (-1) = 0 ∧ 0 ≤ s ∧ 32 * s + 32 ≤ ws.length := by
  unfold eraS at h
  split at h
  · rename_i c; exact absurd h c
  · split at h
    · simp at h
    · rename_i h1 h2
      simp at h1
      exact ⟨h1, by omega, by omega⟩

theorem era_full {ws : List Int} {s : Nat} (h : chk ws (-1) = 0) (hs : 32 * s + 32 ≤ ws.length) : eraS ws (-1) s = (chg (fun _ _ => 65535) (s * 32) 32 ws, -1, 0) := by
  unfold eraS
  rw [if_neg (by simpa using h), if_neg (by omega), cnt_neg _ (by decide), burn_negf _ (by decide), perr_ok (cnt_neg _ (by decide)), Int.toNat_natCast]

theorem era_ok {ws : List Int} {p k : Nat} (h : okL ws = true) : okL (chg (fun _ _ => 65535) p k ws) = true := by
  apply okL_of
  intro i hi
  rw [chg_length] at hi
  rw [chg_get _ _ _ _ _ hi]
  split
  · rfl
  · exact okL_get h i hi

/-- What was programmed into what was erased is read. -/
theorem back_read {ws words : List Int} {s t : Nat} (h2 : okL words = true) (hf : t + words.length ≤ 32) (hs : 32 * s + 32 ≤ ws.length) :
    ((chg (andW words) (32 * s + t) words.length (chg (fun _ _ => 65535) (s * 32) 32 ws)).drop (32 * s + t)).take words.length = words := by
  apply ext_getD (by simp [chg_length]; omega)
  intro i hi
  have hi' : i < words.length := by simp [chg_length] at hi; omega
  have e : ∀ (xs : List Int) (p m : Nat), i < m → ((xs.drop p).take m).getD i 0 = xs.getD (p + i) 0 := fun xs p m hm => by simp [hm]
  rw [e _ _ _ hi', chg_get _ _ _ _ _ (by rw [chg_length]; omega), if_pos ⟨by omega, by omega⟩, chg_get _ _ _ _ _ (by omega), if_pos ⟨by omega, by omega⟩]
  unfold andW
  rw [show 32 * s + t + i - (32 * s + t) = i by omega]
  exact and_full (okL_get h2 i hi')

theorem at_nat (k n : Int) (w : World) (h0 : 0 < n) (h1 : n ≤ 9223372036854775807) (hk : -9223372036854775808 ≤ k ∧ k ≤ 9223372036854775807) :
    Calls Try.prog 29 #[.int .i64 k, .int .i64 n] w fun e w' => ∃ t : Nat, Hid ((t : Int) = k % n) ∧ (t : Int) < n ∧ e = .returned (.int .i64 t) ∧ w' = w := by
  refine (at_any k n w h0 h1 hk).mono ?_
  rintro e w' ⟨rfl, rfl⟩
  have t1 := Int.emod_nonneg k (show n ≠ 0 by omega)
  have t2 := Int.emod_lt_of_pos k h0
  obtain ⟨t, ht⟩ := Int.eq_ofNat_of_zero_le t1
  exact ⟨t, ht.symm, by omega, by rw [ht], rfl⟩

set_option maxRecDepth 100000 in
set_option maxHeartbeats 2000000 in
theorem back_any (a : Option Addr) (n c : Nat) (ws : List Int) (fuel s p : Int) (a2 : Option Addr) (n2 c2 : Nat) (words : List Int) (w : World)
    (h : IsInts w a ws) (hn : ws.length = n) (hm : n ≤ maxLen) (h2 : IsInts w a2 words) (hn2 : words.length = n2) (hc2 : n2 ≤ c2) (hm2 : c2 ≤ maxLen) (hp : -9223372036854775808 ≤ p ∧ p ≤ 9223372036854775807) :
    Calls Try.prog 5 #[.agg #[.slice a n c, .int .i64 fuel], .int .i64 s, .int .i64 p, .slice a2 n2 c2] w fun e w' => e = .returned (.bool true) ∧ Below w.heap.size w w' := by
  unfold maxLen at hm2
  have HN := hide hn
  have HN2 := hide hn2
  have hw : Below w.heap.size w (w.alloc (.cells #[.slice a n c, .int .i64 (-1)] 28)) := (Below.refl _ _).alloc (Nat.le_refl _) _
  have V0 : FBox (w.alloc (.cells #[.slice a n c, .int .i64 (-1)] 28)) w.heap.size a n c (-1) := heap_alloc_last _ _
  have i0 := h.below hw
  have i2 := h2.below hw
  clear hn hn2
  go_enter Try.func5, Try.ntmps5
  go_wp2_with fail
  generalize w.alloc (.cells #[.slice a n c, .int .i64 (-1)] 28) = W at *
  refine (erase_any a n c ws (-1) s W i0 HN.out hm).mono ?_
  intro e w1 hA
  by_cases e1 : (eraS ws (-1) s).2.2 = 0
  rotate_left
  · obtain ⟨⟨a1, n1, c1, rfl, hi1, hn1, hc1, hf1⟩, hb1⟩ := hA
    have e1' : ((eraS ws (-1) s).2.2 != 0) = true := by simpa using e1
    have hw1 := hw.trans (hb1.mono hw.size)
    clear hn1 e1
    go_wp2_with fail
    refine (burnt_any _).mono ?_
    rintro e w2 ⟨rfl, hb2⟩
    go_wp2_with fail
    refine (burnt_any _).mono ?_
    rintro e w3 ⟨rfl, hb3⟩
    go_wp2
    go_ret
    exact ⟨rfl, ((hw1.alloc hw1.size _).trans (hb2.mono (by have := hw1.size; simp; omega))).trans (hb3.mono (by have := hw1.size; have := hb2.size; simp at this; omega))⟩
  obtain ⟨q1, q2, q3⟩ := era_yes e1
  obtain ⟨sn, rfl⟩ := Int.eq_ofNat_of_zero_le q2
  have q3' : 32 * sn + 32 ≤ ws.length := by omega
  obtain ⟨a1, n1, c1, rfl, hi1, hn1, hc1, hf1, hb1⟩ := hA.opened (era_full q1 q3')
  have QP := chk_parts q1
  rw [HN.out] at QP
  have Q1 := hide q1
  have Q3 := hide q3'
  have hl : 32 * sn + 32 ≤ n := by rw [HN.out] at q3'; exact q3'
  have okE : Hid (okL (chg (fun _ _ => 65535) (sn * 32) 32 ws) = true) := era_ok (chk_parts q1).2.2.2
  have chE : Hid (∀ f : Int, -1 ≤ f → f ≤ 100000 → chk (chg (fun _ _ => 65535) (sn * 32) 32 ws) f = 0) := fun f f0 f1 => chk_chg q1 _ _ _ okE.out f0 f1
  have hw1 := hw.trans (hb1.mono hw.size)
  have V0' := V0.below hb1
  have i2' := i2.below hb1
  have hlt1 := blk_lt V0
  have V1 := flVar_new (-1) hi1 hn1 hc1 (hf1.mono (show w.heap.size + 1 ≤ W.heap.size from hlt1))
  have i2'' := i2'.alloc (.cells #[.slice a1 n1 c1, .int .i64 (-1)] 28)
  have hw2 := hw1.alloc hw1.size (.cells #[.slice a1 n1 c1, .int .i64 (-1)] 28)
  clear hA e1 q1 q2 q3 q3' hn1 hi1 hf1 V0 V0' i0 i2 i2' h h2 hb1 hw
  go_wp2_with fail
  generalize w1.alloc (.cells #[.slice a1 n1 c1, .int .i64 (-1)] 28) = w2 at *
  refine (burnt_any _).mono ?_
  rintro e w3 ⟨rfl, hb3⟩
  have V1' := V1.below hb3
  have i2 := i2''.below hb3
  have hw3 := hw2.trans (hb3.mono hw2.size)
  clear V1 i2'' hb3 hw2
  go_wp2_with fail
  refine (at_nat p 32 _ (by omega) (by omega) hp).mono ?_
  rintro e w4 ⟨t, HT, t2, rfl, rfl⟩
  go_upto_region 6 with fail
  obtain ⟨fr, hfr⟩ : ∃ fr : Nat, fr = 32 * sn + t := ⟨_, rfl⟩
  have HFR := hide hfr
  clear hfr
  go_cut [3, 11] (fun v3 v11 wc => ∃ m : Nat, v3 = .slice a2 m c2 ∧ v11 = .int .i64 fr ∧ m = min n2 (32 - t) ∧ wc = w4)
  case first =>
    obtain ⟨u, hu⟩ : ∃ u : Nat, u + t = 32 := ⟨32 - t, by omega⟩
    have eu : 32 * ((sn : Int) + 1) - (32 * (sn : Int) + (t : Int)) = (u : Int) := by omega
    have hm3 : (n2 : Int) ≤ (c2 : Int) := by omega
    have HU := hide hu
    clear hu
    by_cases c : (u : Int) < (n2 : Int)
    · have huc : (u : Int) ≤ (c2 : Int) := by omega
      go_wp2_with fail
      go_meet
      case rel => exact ⟨u, rfl, congrArg (Value.int .i64) (by have := HFR.out; omega), by have := HU.out; omega, rfl⟩
    · go_wp2_with fail
      go_meet
      case rel => exact ⟨n2, rfl, congrArg (Value.int .i64) (by have := HFR.out; omega), by have := HU.out; omega, rfl⟩
  case rest =>
    obtain ⟨m, rfl, rfl, hmm, rfl⟩ := hcut
    have m1 : m ≤ n2 := by omega
    have m2 : m + t ≤ 32 := by omega
    clear hmm
    have hfn : fr + m ≤ n := by have := HFR.out; omega
    have zl : (words.take m).length = m := by have := HN2.out; simp; omega
    have iz := i2.take m
    have RD : okL (words.take m) = true → ((chg (andW (words.take m)) fr m (chg (fun _ _ => 65535) (sn * 32) 32 ws)).drop fr).take m = words.take m := by
      intro hk
      have := back_read (s := sn) (t := t) hk (by rw [zl]; omega) Q3.out
      rw [zl, ← HFR.out] at this
      exact this
    have el : (chg (fun _ _ => 65535) (sn * 32) 32 ws).length = n := by rw [chg_length, HN.out]
    generalize words.take m = zs at *
    generalize chg (fun _ _ => 65535) (sn * 32) 32 ws = es at *
    have HRD := hide RD
    have ZL := hide zl
    have EL := hide el
    clear RD zl el i2 Q1 Q3 okE HN HN2
    obtain ⟨ae, ne, ce, be, hie, hne, hce, -⟩ := id V1'
    have x0 : wc.cell? ⟨w1.heap.size, 0, none⟩ = some (.slice ae ne ce) := blk_cell be 0 _ rfl
    have x1 : wc.cell? ⟨w1.heap.size, 1, none⟩ = some (.int .i64 (-1)) := blk_cell be 1 _ rfl
    have HNE := hide hne
    clear hne be
    cases hok : okL zs
    · have EP : progS es (-1) fr zs = ([], 0, 3) := by
        unfold progS; rw [if_neg (by simpa using chE.out (-1) (by decide) (by decide)), if_neg (by unfold fitB; rw [ZL.out, EL.out]; simp; omega), if_pos hok]
      have HP := hide (program_from wc ae ne ce es (-1) fr a2 m c2 zs _ _ _ EP hie HNE.out (by rw [← HNE.out, EL.out]; exact hm) iz ZL.out (by unfold maxLen; omega) (by omega) wc (Below.refl _ _))
      clear hok EP
      go_wp2_with fail
      refine (unhide HP).mono ?_
      rintro e w6 ⟨a6, n6, c6, rfl, hi6, hn6, hc6, hf6, hb6, -⟩
      clear hn6
      go_wp2
      go_ret
      have hw6 := hw3.trans (hb6.mono hw3.size)
      exact ⟨rfl, hw6.alloc hw6.size _⟩
    have EP : progS es (-1) fr zs = (chg (andW zs) fr m es, -1, 0) := by
      have := prog_full (chE.out (-1) (by decide) (by decide)) (show fr + zs.length ≤ es.length by rw [ZL.out, EL.out]; exact hfn) hok
      rw [ZL.out] at this; exact this
    obtain ⟨nn, hnn⟩ : ∃ nn, nn = min m t := ⟨_, rfl⟩
    obtain ⟨qf, hqf⟩ : ∃ qf : Int, qf = (t : Int) - (nn : Int) := ⟨_, rfl⟩
    obtain ⟨pe, hpe⟩ : ∃ pe, pe = perr t m := ⟨_, rfl⟩
    have EQ : progS es t fr zs = (chg (andW zs) fr nn es, qf, pe) := by
      have e : cnt (t : Int) m = nn := by rw [cnt_nn _ (by omega), Int.toNat_natCast, hnn]
      rw [hqf, hpe]
      have := prog_ok (fuel := t) (chE.out t (by omega) (by omega)) (show fr + zs.length ≤ es.length by rw [ZL.out, EL.out]; exact hfn) hok
      rw [ZL.out, e, burn_nn _ (by omega)] at this; exact this
    have pl : (chg (andW zs) fr m es).length = n := by rw [chg_length, EL.out]
    have ER : readS (chg (andW zs) fr m es) (-1) fr m = (zs, 0) := by
      unfold readS
      rw [if_neg (by simpa using chk_chg (chE.out (-1) (by decide) (by decide)) (andW zs) fr m (chg_ok (chk_parts (chE.out (-1) (by decide) (by decide))).2.2.2 hok (by rw [ZL.out]; exact Nat.le_refl _) (by rw [EL.out]; exact hfn)) (by decide) (by decide)), if_neg (by unfold fitB; rw [pl]; simp; omega), Int.toNat_natCast, Int.toNat_natCast, HRD.out hok]
    have PG : ∀ i, i < n → (chg (andW zs) fr m es).getD i 0 = if fr ≤ i ∧ i < fr + m then andW zs (i - fr) (es.getD i 0) else es.getD i 0 := fun i hi => chg_get _ _ _ _ _ (by rw [EL.out]; exact hi)
    have QG : ∀ i, i < n → (chg (andW zs) fr nn es).getD i 0 = if fr ≤ i ∧ i < fr + nn then andW zs (i - fr) (es.getD i 0) else es.getD i 0 := fun i hi => chg_get _ _ _ _ _ (by rw [EL.out]; exact hi)
    have ql : (chg (andW zs) fr nn es).length = n := by rw [chg_length, EL.out]
    have P1 : ∀ i, i < n → (i < fr ∨ fr + m ≤ i) → (chg (andW zs) fr m es).getD i 0 = es.getD i 0 := fun i hi hc => by rw [PG i hi, if_neg (by omega)]
    have Q1 : ∀ i, i < n → i < fr + nn → (chg (andW zs) fr nn es).getD i 0 = (chg (andW zs) fr m es).getD i 0 := fun i hi hc => by
      rw [PG i hi, QG i hi]
      by_cases c : fr ≤ i
      · rw [if_pos ⟨c, hc⟩, if_pos ⟨c, by omega⟩]
      · rw [if_neg (by omega), if_neg (by omega)]
    have Q2 : ∀ i, i < n → fr + nn ≤ i → (chg (andW zs) fr nn es).getD i 0 = es.getD i 0 := fun i hi hc => by rw [QG i hi, if_neg (by omega)]
    have pe0 : m ≤ t → pe = 0 := fun hc => by rw [hpe]; exact perr_ok (by rw [cnt_nn _ (by omega), Int.toNat_natCast]; omega)
    have pe7 : t < m → pe = 7 := fun hc => by rw [hpe]; exact perr_no (by rw [cnt_nn _ (by omega), Int.toNat_natCast]; omega)
    have PE0 := hide pe0
    have PE7 := hide pe7
    have HNN := hide hnn
    have HQF := hide hqf
    have nn1 : nn ≤ m := by omega
    have nn2 : nn ≤ t := by omega
    clear pe0 pe7 hnn hqf hpe
    have HP := hide (program_from wc ae ne ce es (-1) fr a2 m c2 zs _ _ _ EP hie HNE.out (by rw [← HNE.out, EL.out]; exact hm) iz ZL.out (by unfold maxLen; omega) (by omega) wc (Below.refl _ _))
    generalize chg (andW zs) fr m es = ps at *
    generalize chg (andW zs) fr nn es = qs at *
    have HER := hide ER
    have HEQ := hide EQ
    have PL := hide pl
    have QL := hide ql
    have HP1 := hide P1
    have HQ1 := hide Q1
    have HQ2 := hide Q2
    clear hok EP EQ ER PG QG P1 Q1 Q2 pl ql HRD
    go_wp2_with fail
    refine (unhide HP).mono ?_
    rintro e w6 ⟨a6, n6, c6, rfl, hi6, hn6, hc6, hf6, hb6, -⟩
    have hb7 := hb6.alloc hb6.size (.cells #[.slice a6 n6 c6, .int .i64 (-1)] 28)
    have VP := flVar_new (-1) hi6 hn6 hc6 (hf6.mono (show w.heap.size + 1 ≤ wc.heap.size by have := hw1.size; have := V1'.lt; omega))
    have VE := V1'.below hb7
    have iz7 := iz.below hb7
    have hw7 := hw3.trans (hb7.mono hw3.size)
    have HN6 := hide hn6
    have hlt6 := hb6.size
    clear hn6 V1' iz hb7 hb6 x0 x1 hie hce HNE HP hw3
    have HR := hide (read_any a6 n6 c6 ps (-1) fr m (w6.alloc (.cells #[.slice a6 n6 c6, .int .i64 (-1)] 28)) (hi6.alloc _) HN6.out (by rw [← HN6.out, PL.out]; exact hm) hc6 (by omega) (by omega))
    go_wp2_with fail
    generalize w6.alloc (.cells #[.slice a6 n6 c6, .int .i64 (-1)] 28) = w7 at *
    refine (unhide HR).mono ?_
    intro e w8 hA
    obtain ⟨a8, n8, c8, rfl, hi8, hn8, hc8, hf8, hb8⟩ := hA.opened HER.out
    replace VP := VP.below hb8
    replace VE := VE.below hb8
    replace iz7 := iz7.below hb8
    replace hw7 := hw7.trans (hb8.mono hw7.size)
    have HQ := hide (equal_at a8 a2 n8 m c8 c2 zs zs true w8 hi8 iz7 hn8 ZL.out (eqL_self zs) (by rw [← hn8, ZL.out]; unfold maxLen; omega) (by unfold maxLen; omega))
    clear hA hn8 hb8 hi8 hf8 HR hi6 hf6
    go_wp2_with fail
    refine (unhide HQ).mono ?_
    rintro e w9 ⟨rfl, d, rfl⟩
    have VP9 := VP.below (below_drewN (Below.refl _ _) d)
    have VE9 := VE.below (below_drewN (Below.refl _ _) d)
    have iz9 := iz7.drewN d
    have hw9 := below_drewN hw7 d
    clear VP VE iz7 hw7 HQ
    go_upto_region 13 with fail
    generalize w8.drewN d = w9 at *
    obtain ⟨ae, ne, ce, be, hie, hne, hce, -⟩ := id VE9
    obtain ⟨ap, np, cp, bp, hip, hnp, hcp, -⟩ := id VP9
    have x0 : w9.cell? ⟨w1.heap.size, 0, none⟩ = some (.slice ae ne ce) := blk_cell be 0 _ rfl
    have x1 : w9.cell? ⟨w1.heap.size, 1, none⟩ = some (.int .i64 (-1)) := blk_cell be 1 _ rfl
    have y0 : w9.cell? ⟨w6.heap.size, 0, none⟩ = some (.slice ap np cp) := blk_cell bp 0 _ rfl
    obtain rfl : n = np := by rw [← hnp, PL.out]
    obtain rfl : n = ne := by rw [← hne, EL.out]
    rcases hie with hnil | ⟨bE, oE, rfl, hcE⟩
    · have := EL.out; rw [hnil] at this; simp at this; omega
    rcases hip with hnil | ⟨bP, oP, rfl, hcP⟩
    · have := PL.out; rw [hnil] at this; simp at this; omega
    clear hne hnp
    have HCE := hide hcE
    have HCP := hide hcP
    clear hcE hcP
    go_wp2_with fail
    go_loop [80] (fun i => ∃ k : Nat, k ≤ n ∧ i = .int .i64 k) (fun i => n - (intOf i).toNat)
    case atStart => exact ⟨0, Nat.zero_le _, rfl⟩
    case round =>
      obtain ⟨k, hk, rfl⟩ := hrel
      by_cases hlt : k < n
      · have cP := HCP.out k (by rw [PL.out]; exact hlt)
        have cE := HCE.out k (by rw [EL.out]; exact hlt)
        have hv := HP1.out k hlt
        generalize ps.getD k 0 = pv at cP hv
        generalize es.getD k 0 = ev at cE hv
        have hlt2 : (k : Int) < (n : Int) := by omega
        by_cases c1 : k < fr
        · have hv' := hv (.inl c1)
          subst hv'
          have d1 : (k : Int) < (fr : Int) := by omega
          clear hv
          go_wp2
          go_round
          case rel => exact ⟨k + 1, by omega, by go_num⟩
          case measure => simp [intOf]; omega
        · have d1 : decide ((k : Int) < (fr : Int)) = false := by simp; omega
          by_cases c2 : fr + m ≤ k
          · have hv' := hv (.inr c2)
            subst hv'
            have d2 : (fr : Int) + (m : Int) ≤ (k : Int) := by omega
            clear hv
            go_wp2
            go_round
            case rel => exact ⟨k + 1, by omega, by go_num⟩
            case measure => simp [intOf]; omega
          · have d2 : decide ((fr : Int) + (m : Int) ≤ (k : Int)) = false := by simp; omega
            clear hv
            go_wp2
            go_round
            case rel => exact ⟨k + 1, by omega, by go_num⟩
            case measure => simp [intOf]; omega
      · have hie : IsInts w9 (some ⟨bE, oE, none⟩) es := .inr ⟨bE, oE, rfl, HCE.out⟩
        have hip : IsInts w9 (some ⟨bP, oP, none⟩) ps := .inr ⟨bP, oP, rfl, HCP.out⟩
        clear HCE HCP
        go_wp2_with fail
        refine (at_nat p 32 _ (by omega) (by omega) hp).mono ?_
        rintro e w10 ⟨t', HT', t2', rfl, rfl⟩
        obtain rfl : t = t' := by have h1 := HT.out; have h2 := HT'.out; omega
        clear HT' t2'
        have hwA := hw9.alloc hw9.size (.cells #[.slice (some ⟨bE, oE, none⟩) n ce, .int .i64 t] 28)
        have VPA := VP9.below ((Below.refl _ _).alloc (Nat.le_refl _) (.cells #[.slice (some ⟨bE, oE, none⟩) n ce, .int .i64 t] 28))
        have VEA := VE9.below ((Below.refl _ _).alloc (Nat.le_refl _) (.cells #[.slice (some ⟨bE, oE, none⟩) n ce, .int .i64 t] 28))
        have BW := hide (heap_alloc_last w9 (.cells #[.slice (some ⟨bE, oE, none⟩) n ce, .int .i64 t] 28))
        have HP := hide (program_from (w9.alloc (.cells #[.slice (some ⟨bE, oE, none⟩) n ce, .int .i64 t] 28)) (some ⟨bE, oE, none⟩) n ce es t fr a2 m c2 zs _ _ _ HEQ.out (hie.alloc _) EL.out hm (iz9.alloc _) ZL.out (by unfold maxLen; omega) (by omega) _ (Below.refl _ _))
        clear x0 x1 y0 VE9 VP9 iz9 hie hip
        go_wp2_with fail
        generalize w9.alloc (.cells #[.slice (some ⟨bE, oE, none⟩) n ce, .int .i64 t] 28) = wA at *
        refine (unhide HP).mono ?_
        rintro e wB ⟨aq, nq, cq, rfl, hiq, hnq, hcq, hfq, hbB, -⟩
        have hbC := hbB.alloc hbB.size (.cells #[.slice aq nq cq, .int .i64 qf] 28)
        have VQ := flVar_new qf hiq hnq hcq (FreshA.mono hfq (Nat.zero_le _))
        have VPC := VPA.below hbC
        have VEC := VEA.below hbC
        have BWC := hide (blk_below BW.out hbC)
        have hwC := hwA.trans (hbC.mono hwA.size)
        clear hbC hbB hnq hiq hfq HP VPA VEA BW hwA
        go_upto_region 22 with fail
        generalize wB.alloc (.cells #[.slice aq nq cq, .int .i64 qf] 28) = wC at *
        have u1 : wC.cell? ⟨w9.heap.size, 1, none⟩ = some (.int .i64 t) := blk_cell BWC.out 1 _ rfl
        go_cut [132] (fun v132 wc => v132 = .bool false ∧ wc = wC)
        case first =>
          by_cases c : m ≤ t
          · obtain rfl : pe = 0 := PE0.out c
            have d1 : (m : Int) ≤ (t : Int) := by omega
            go_wp2_with fail
            go_meet
            case rel => exact ⟨rfl, rfl⟩
          · obtain rfl : pe = 7 := PE7.out (by omega)
            have d1 : decide ((m : Int) ≤ (t : Int)) = false := by simp; omega
            go_wp2_with fail
            go_meet
            case rel => exact ⟨rfl, rfl⟩
        case rest =>
          obtain ⟨rfl, hwc⟩ := hcut
          subst hwc
          obtain ⟨wD, rfl⟩ : ∃ wD : World, wD = wc := ⟨_, rfl⟩
          go_upto_region 24 with fail
          go_cut [18] (fun v18 wx => v18 = .int .i64 (nn : Int) ∧ wx = wD)
          case first =>
            by_cases c : (m : Int) < (t : Int)
            · go_wp2_with fail
              go_meet
              case rel => exact ⟨congrArg (Value.int .i64) (by have := HNN.out; omega), rfl⟩
            · go_wp2_with fail
              go_meet
              case rel => exact ⟨congrArg (Value.int .i64) (by have := HNN.out; omega), rfl⟩
          case rest =>
            obtain ⟨rfl, hwc⟩ := hcut
            subst hwc
            obtain ⟨ae, ne, ce', be, hie, hne, hce', -⟩ := id VEC
            obtain ⟨ap, np, cp', bp, hip, hnp, hcp', -⟩ := id VPC
            obtain ⟨aq', nq', cq', bq, hiq, hnq, hcq', -⟩ := id VQ
            have x0 : wc.cell? ⟨w1.heap.size, 0, none⟩ = some (.slice ae ne ce') := blk_cell be 0 _ rfl
            have y0 : wc.cell? ⟨w6.heap.size, 0, none⟩ = some (.slice ap np cp') := blk_cell bp 0 _ rfl
            have z0 : wc.cell? ⟨wB.heap.size, 0, none⟩ = some (.slice aq' nq' cq') := blk_cell bq 0 _ rfl
            have z1 : wc.cell? ⟨wB.heap.size, 1, none⟩ = some (.int .i64 qf) := blk_cell bq 1 _ rfl
            obtain rfl : n = np := by rw [← hnp, PL.out]
            obtain rfl : n = ne := by rw [← hne, EL.out]
            obtain rfl : n = nq' := by rw [← hnq, QL.out]
            rcases hie with hnil | ⟨bE', oE', rfl, hcE⟩
            · have := EL.out; rw [hnil] at this; simp at this; omega
            rcases hip with hnil | ⟨bP', oP', rfl, hcP⟩
            · have := PL.out; rw [hnil] at this; simp at this; omega
            rcases hiq with hnil | ⟨bQ, oQ, rfl, hcQ⟩
            · have := QL.out; rw [hnil] at this; simp at this; omega
            have HCE := hide hcE
            have HCP := hide hcP
            have HCQ := hide hcQ
            clear hcE hcP hcQ hne hnp hnq be bp bq
            go_wp2_with fail
            go_loop [141] (fun i => ∃ k : Nat, k ≤ n ∧ i = .int .i64 k) (fun i => n - (intOf i).toNat)
            case atStart => exact ⟨0, Nat.zero_le _, rfl⟩
            case round =>
              obtain ⟨k, hk, rfl⟩ := hrel
              by_cases hlt : k < n
              · have cP := HCP.out k (by rw [PL.out]; exact hlt)
                have cE := HCE.out k (by rw [EL.out]; exact hlt)
                have cQ := HCQ.out k (by rw [QL.out]; exact hlt)
                have hv := HQ1.out k hlt
                have hu := HQ2.out k hlt
                generalize ps.getD k 0 = pv at cP hv
                generalize es.getD k 0 = ev at cE hu
                generalize qs.getD k 0 = qv at cQ hv hu
                have hlt2 : (k : Int) < (n : Int) := by omega
                by_cases c1 : k < fr + nn
                · have hv' := hv c1
                  subst hv'
                  have d1 : (k : Int) < (fr : Int) + (nn : Int) := by omega
                  have d2 : decide ((fr : Int) + (nn : Int) ≤ (k : Int)) = false := by simp; omega
                  clear hv hu
                  go_wp2
                  go_round
                  case rel => exact ⟨k + 1, by omega, by go_num⟩
                  case measure => simp [intOf]; omega
                · have hu' := hu (by omega)
                  subst hu'
                  have d1 : decide ((k : Int) < (fr : Int) + (nn : Int)) = false := by simp; omega
                  have d2 : (fr : Int) + (nn : Int) ≤ (k : Int) := by omega
                  clear hv hu
                  go_wp2
                  go_round
                  case rel => exact ⟨k + 1, by omega, by go_num⟩
                  case measure => simp [intOf]; omega
              · have he : (qf == (t : Int) - (nn : Int)) = true := by simpa using HQF.out
                clear HCE HCP HCQ
                go_wp2
                go_ret
                exact ⟨rfl, hwC⟩

end Go.Proofs.Ytanpglfpopbfkaa
