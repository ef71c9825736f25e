/- The contract of wainwrightref.Cleared: the document's Clear, of right flash and slot. Plain facts for SlotHolds: a slot that was cleared and filled piece by piece, then sealed as far as there is power. The contract of wainwrightref.Programmed. The contracts of wainwrightref.Filled and SealedIn: the document's Fill and Seal, of right flash and slot. -/
import Derived.Test.YtgngpmgjoifepaaGreatDoorPv22
import Derived.Test.YtgngpmgjoifepaaGreatDoorPv9
import Derived.Test.YtgngpmgjoifepaaGreatDoorPv13
namespace Go.Proofs.YtgngpmgjoifepaaGreatDoor
open Go.RowKit
attribute [local go_sem ↓] Go.wp_at_zero Go.wp_at_succ

theorem chgs_two {w0 w : World} {g cap sa sb : Nat} (h : w.ownsRow w0.heap.size 237 2 (.slice (some ⟨g, 0, none⟩) (32 + 32) cap) (32 + 32) (cells2 (eraL sa 32) ++ cells2 (eraL sb 32))) : IsChgs w (some ⟨g, 0, none⟩) (eraL sa 32 ++ eraL sb 32) := by
  rw [← cells2_append, show 32 + 32 = (eraL sa 32 ++ eraL sb 32).length by rw [List.length_append, eraL_length, eraL_length]] at h
  obtain ⟨a, c, hv, _, hl⟩ := chgs_of_row h ((eraL_caps w sa 32).append (eraL_caps w sb 32))
  cases hv
  exact hl

theorem cap_two {w0 w : World} {g cap : Nat} {xs : List Value} (h : w.ownsRow w0.heap.size 237 2 (.slice (some ⟨g, 0, none⟩) (32 + 32) cap) (32 + 32) xs) : 64 ≤ cap := by
  obtain ⟨_, ⟨hv, _⟩ | ⟨g', cap', cur, hv, hg, hh, hc, _⟩⟩ := h
  { cases hv }
  {
  cases hv
  exact hc

  }
set_option maxRecDepth 100000 in
set_option maxHeartbeats 2000000 in
theorem cleared_any (a : Option Addr) (c : Nat) (ws : List Int) (fuel : Int) (sn : Nat) (w : World) (h : IsInts w a ws) (hn : ws.length = 192) (hk : chk ws fuel = 0) (hs : sn ≤ 1) :
    Calls Tryz.prog 74 #[.agg #[.slice a 192 c, .int .i64 fuel], .int .i64 sn] w (Answers w (clrAt ws fuel sn 2)) := by
  obtain ⟨i0', hi0, hz0, hz1, hz2⟩ := info_parts info_change
  have parts := chk_parts hk
  have HTwo := hide (chgS_two hk hn hs)
  have HN := hide hn
  clear hn hk
  have hw : Below w.heap.size w ((w.alloc (.cells #[.slice a 192 c, .int .i64 fuel] 27)).alloc (.cells #[.slice none 0 0, .int .i64 0] 27)) :=
    ((Below.refl _ _).alloc (Nat.le_refl _) _).alloc (by simp) _
  have b0 := hide (blk_alloc (heap_alloc_last w (.cells #[.slice a 192 c, .int .i64 fuel] 27)) (.cells #[.slice none 0 0, .int .i64 0] 27))
  have b1 : Hid (((w.alloc (.cells #[.slice a 192 c, .int .i64 fuel] 27)).alloc (.cells #[.slice none 0 0, .int .i64 0] 27)).heap[w.heap.size + 1]? = some (.cells #[.slice none 0 0, .int .i64 0] 27 (0, 0))) := by
    show _ = _
    simpa using heap_alloc_last (w.alloc _) _
  have i0 := h.below hw
  obtain ⟨sa, hsa⟩ : ∃ sa, sa = 2 + 2 * sn := ⟨_, rfl⟩
  obtain ⟨sb, hsb⟩ : ∃ sb, sb = 3 + 2 * sn := ⟨_, rfl⟩
  rw [← hsa, ← hsb] at HTwo
  have ha6 : sa ≤ 4 := by omega
  have hb6 : sb ≤ 5 := by omega
  obtain ⟨d, hd⟩ : ∃ d : Int, d = 2 * (sn : Int) := ⟨_, rfl⟩
  have k1 : IntKind.i64.wrap (2 * (sn : Int)) = d := by rw [IntKind.wrap_i64]; omega
  have k2 : IntKind.i64.wrap (2 + d) = (sa : Int) := by rw [IntKind.wrap_i64]; omega
  have k3 : IntKind.i64.wrap (3 + d) = (sb : Int) := by rw [IntKind.wrap_i64]; omega
  clear hsa hsb hd hs
  have HCh := hide (fun W' (al : Option Addr) (cl : Nat) (hb : IsInts W' a ws) (hl : IsChgs W' al (eraL sa 32 ++ eraL sb 32)) (hcl : 64 ≤ cl) => changed_any a 192 c ws fuel al 64 cl (eraL sa 32 ++ eraL sb 32) W' hb HN.out (by omega) (by omega) (by omega) hl (by rw [List.length_append, eraL_length, eraL_length]) hcl (by omega) (by
    intro c hc
    rcases List.mem_append.1 hc with hc | hc
    · have := eraL_in hc; omega
    · have := eraL_in hc; omega))
  go_enter Tryz.func74, Tryz.ntmps74
  go_upto_region 1 with fail
  generalize (w.alloc (.cells #[.slice a 192 c, .int .i64 fuel] 27)).alloc (.cells #[.slice none 0 0, .int .i64 0] 27) = W at *
  have x0 : W.cell? ⟨w.heap.size, 0, none⟩ = some (.slice a 192 c) := blk_cell b0.out 0 _ rfl
  have x1 : W.cell? ⟨w.heap.size, 1, none⟩ = some (.int .i64 fuel) := blk_cell b0.out 1 _ rfl
  have lt0 := blk_lt b0.out
  have lt1 := blk_lt b1.out
  go_region_held3 (fun w' => w'.cell? ⟨w.heap.size, 0, none⟩ = some (.slice a 192 c) ∧ w'.cell? ⟨w.heap.size, 1, none⟩ = some (.int .i64 fuel)) (first | exact ⟨by assumption, by assumption⟩ | go_keep)
    ((first
      | (go_at_call_of 134 sa; refine (erases_row sa _ (by omega)).mono ?_; rintro e w5 ⟨g5, c5, rfl, ho5, hl5, hb5⟩; replace hb5 : Below W.heap.size W w5 := (Below.trans (Below.refl _ W).drew hb5); replace ho5 : w5.ownsRow W.heap.size 237 2 (.slice (some ⟨g5, 0, none⟩) 32 c5) 32 (cells2 (eraL sa 32)) := ho5; have z0 : w5.cell? ⟨w.heap.size, 0, none⟩ = some (.slice a 192 c) := (by rw [hb5.cell lt0]; exact x0); have z1 : w5.cell? ⟨w.heap.size, 1, none⟩ = some (.int .i64 fuel) := (by rw [hb5.cell lt0]; exact x1))
      | (go_at_call_of 134 sb; refine (erases_row sb _ (by omega)).mono ?_; rintro e w6 ⟨g6, c6, rfl, ho6, hl6, hb56⟩; have hb6 : Below W.heap.size W w6 := hb5.trans (hb56.mono hb5.size); have ho56 := ownsRow_keeps ho5 hb56; have y0 : w6.cell? ⟨w.heap.size, 0, none⟩ = some (.slice a 192 c) := (by rw [hb6.cell lt0]; exact x0); have y1 : w6.cell? ⟨w.heap.size, 1, none⟩ = some (.int .i64 fuel) := (by rw [hb6.cell lt0]; exact x1))
      | (refine step_append_lies _ (by rfl) _ _ _ (by rfl) W.heap.size 237 i0' _ 2 16 Tryz.underlying195 hi0 hz0 hz1 hz2 rfl (by omega) (.slice (some ⟨g5, 0, none⟩) 32 c5) 32 (cells2 (eraL sa 32)) (by rfl) ho56 ⟨g6, 0, none⟩ 32 c6 (cells2 (eraL sb 32)) (by rfl) (by rw [cells2_length, eraL_length]) (chgs_news hl6) (cells2_one _) (by omega) (by decide) (by omega) hb6.size w6.heap.size (by rfl) ?_; intro g cap w7 hown7 hgrow hat hlt; have hb7 : Below W.heap.size W w7 := (hb6.grown hgrow hb6.size (ownBlock_ge ho56)); have t0 : w7.cell? ⟨w.heap.size, 0, none⟩ = some (.slice a 192 c) := (by rw [hb7.cell lt0]; exact x0); have t1 : w7.cell? ⟨w.heap.size, 1, none⟩ = some (.int .i64 fuel) := (by rw [hb7.cell lt0]; exact x1))
      | (go_at_call 133; refine (unhide HCh _ _ _ ?_ ?_ ?_).mono ?_; exact i0.below hb7; exact (chgs_two hown7); exact (cap_two hown7); rintro e w8 ⟨⟨a8, n8, c8, rfl, hi8, hn8, hc8, hf8⟩, hb78⟩; have hb8 : Below W.heap.size W w8 := (hb7.trans (hb78.mono hb7.size)); have v0 : w8.cell? ⟨w.heap.size, 0, none⟩ = some (.slice a 192 c) := (by rw [hb8.cell lt0]; exact x0); have v1 : w8.cell? ⟨w.heap.size, 1, none⟩ = some (.int .i64 fuel) := (by rw [hb8.cell lt0]; exact x1); have q0 := blk_cell (blk_below b1.out hb8) 0 _ rfl; have q1 := blk_cell (blk_below b1.out hb8) 1 _ rfl; have q2 := blk_free (blk_below b1.out hb8) 0; have q3 := blk_free (blk_below b1.out hb8) 1)))
  go_wp2
  refine bodyPost_ret (v := .tuple #[.agg #[.slice a8 n8 c8, .int .i64 (chgS ws fuel (eraL sa 32 ++ eraL sb 32)).2.1], .int .i64 (chgS ws fuel (eraL sa 32 ++ eraL sb 32)).2.2]) (by simp [results, Tryz.results74, go_sem, q0, q1]) rfl ?_
  rw [← HTwo.out]
  have hw8 := hw.trans (hb8.mono hw.size)
  have hf9 : FreshA W.heap.size a8 := hf8.mono hb7.size
  refine ⟨⟨a8, n8, c8, rfl, (hi8.other hf9 lt1 0 _).other hf9 lt1 1 _, hn8, hc8, hf9.mono hw.size⟩, (hw8.setCell (by simp) _).setCell (by simp) _⟩

end Go.Proofs.YtgngpmgjoifepaaGreatDoor

namespace Go.Proofs.YtgngpmgjoifepaaGreatDoor
open Go.RowKit

theorem xorW_all : ∀ x : Fin 61, xorW ((x.val : Nat) : Int) = 65535 - ((x.val : Nat) : Int) := by decide +kernel
theorem xorW_small {x : Int} (h0 : 0 ≤ x) (h1 : x ≤ 60) : xorW x = 65535 - x := by
  obtain ⟨k, rfl⟩ := Int.eq_ofNat_of_zero_le h0
  exact xorW_all ⟨k, by omega⟩

structure Fld (ws words : List Int) (s k : Nat) (G : List Int) : Prop where
  len : G.length = 192
  ok : okL G = true
  at' : ∀ i, i < 192 → G.getD i 0 = if 64 + 64 * s ≤ i ∧ i < 128 + 64 * s then (if 68 + 64 * s ≤ i ∧ i < 68 + 64 * s + k then words.getD (i - (68 + 64 * s)) 0 else 65535) else ws.getD i 0

theorem Fld.chk {ws words G : List Int} {s k : Nat} (h : Fld ws words s k G) {f : Int} (h0 : -1 ≤ f) (h1 : f ≤ 100000) : chk G f = 0 := by
  apply chk_ok
  { rw [h.len]; rfl }
  {
  unfold rangeB; rw [h.ok]; simp; omega

  }
theorem slotE_ok {G : List Int} {f : Int} {s : Nat} (hc : chk G f = 0) (hl : G.length = 192) (hs : s ≤ 1) : slotE G f s = 0 := by
  unfold slotE
  rw [if_neg (by simpa using hc), if_neg (by simpa using hl), if_neg (by simp [inB]; omega)]

theorem Fld.slot {ws words G : List Int} {s k t : Nat} (h : Fld ws words s k G) {f : Int} (h0 : -1 ≤ f) (h1 : f ≤ 100000) (ht : t ≤ 1) : slotE G f t = 0 :=
  slotE_ok (h.chk h0 h1) h.len ht

theorem okW_full : okW 65535 = true := by decide

theorem chg_full_ok {ws : List Int} {p k : Nat} (h : okL ws = true) : okL (chg (fun _ _ => 65535) p k ws) = true := by
  apply okL_of
  intro i hi
  rw [chg_length] at hi
  rw [chg_get _ _ _ _ _ hi]
  split
  { exact okW_full }
  {
  exact okL_get h i hi

  }
theorem fill_step {ws words G : List Int} {s k l : Nat} (h : Fld ws words s k G) (hs : s ≤ 1) (hk : k + l ≤ words.length) (hm : words.length ≤ 40) :
    (okL ((words.drop k).take l) = false ∧ fillS G (-1) s k ((words.drop k).take l) = ([], 0, 3)) ∨
    (okL ((words.drop k).take l) = true ∧ ∃ G', fillS G (-1) s k ((words.drop k).take l) = (G', -1, 0) ∧ Fld ws words s (k + l) G') := by
  have hlen : ((words.drop k).take l).length = l := by simp; omega
  have hE := h.slot (f := -1) (t := s) (by decide) (by decide) hs
  have hB : fillB (k : Int) ((words.drop k).take l).length = true := by rw [hlen]; simp [fillB, inB]; omega
  have hp : (68 + 64 * (s : Int) + (k : Int)) = ((68 + 64 * s + k : Nat) : Int) := by omega
  have hc := h.chk (f := -1) (by decide) (by decide)
  have hfs : fillS G (-1) s k ((words.drop k).take l) = progS G (-1) ((68 + 64 * s + k : Nat) : Int) ((words.drop k).take l) := by
    unfold fillS
    rw [if_neg (by simpa using hE), if_neg (by rw [hB]; decide), hp]
  rw [hfs]
  cases hok : okL ((words.drop k).take l)
  {
  left
  refine ⟨rfl, ?_⟩
  unfold progS
  rw [if_neg (by simpa using hc), if_neg (by rw [hlen, h.len]; simp [fitB]; omega), if_pos hok]
  }
  {
  right
  refine ⟨rfl, _, prog_full hc (by rw [hlen, h.len]; omega) hok, ⟨by rw [chg_length]; exact h.len, chg_ok h.ok hok (Nat.le_refl _) (by rw [hlen, h.len]; omega), ?_⟩⟩
  intro i hi
  rw [chg_get _ _ _ _ _ (by rw [h.len]; exact hi), hlen, h.at' i hi]
  by_cases c1 : 68 + 64 * s + k ≤ i ∧ i < 68 + 64 * s + k + l
  {
  rw [if_pos c1, if_pos (by omega), if_neg (by omega), if_pos (by omega), if_pos (by omega)]
  unfold andW
  have hw := okL_get hok (i - (68 + 64 * s + k)) (by rw [hlen]; omega)
  rw [and_full hw]
  have : i - (68 + 64 * s) = k + (i - (68 + 64 * s + k)) := by omega
  rw [this]
  simp [show i - (68 + 64 * s + k) < l by omega]
  }
  {
  rw [if_neg c1]
  by_cases c2 : 64 + 64 * s ≤ i ∧ i < 128 + 64 * s
  {
  rw [if_pos c2, if_pos c2]
  by_cases c3 : 68 + 64 * s ≤ i ∧ i < 68 + 64 * s + k
  { rw [if_pos c3, if_pos (by omega)] }
  { rw [if_neg c3, if_neg (by omega)] }
  }
  {
  rw [if_neg c2, if_neg c2]

  }
  }
  }
theorem headL_len (a b : Int) : (headL a b).length = 4 := rfl

theorem headL_ok {m name : Int} (h : sealB m name = true) : okL (headL m name) = true := by
  simp [sealB, inB] at h
  have e1 := xorW_small (x := m) (by omega) (by omega)
  have e2 := xorW_small (x := name) (by omega) (by omega)
  unfold headL
  rw [e1, e2]
  simp [okL, okW]
  omega

structure Sld (G : List Int) (s k : Nat) (m name : Int) (H : List Int) : Prop where
  len : H.length = 192
  ok : okL H = true
  at' : ∀ i, i < 192 → H.getD i 0 = if 64 + 64 * s ≤ i ∧ i < 64 + 64 * s + k then (headL m name).getD (i - (64 + 64 * s)) 0 else G.getD i 0

end Go.Proofs.YtgngpmgjoifepaaGreatDoor

namespace Go.Proofs.YtgngpmgjoifepaaGreatDoor
open Go.RowKit
attribute [local go_sem ↓] Go.wp_at_zero Go.wp_at_succ

set_option maxRecDepth 100000 in
set_option maxHeartbeats 2000000 in
theorem programmed_any (a : Option Addr) (n c : Nat) (ws : List Int) (fuel p : Int) (a2 : Option Addr) (n2 c2 : Nat) (words : List Int) (w : World) (h : IsInts w a ws) (hn : ws.length = n) (hk : chk ws fuel = 0) (h2 : IsInts w a2 words) (hn2 : words.length = n2) (hm2 : n2 ≤ maxLen) (hp : -9223372036854775808 ≤ p ∧ p ≤ 9223372036854775807) :
    Calls Tryz.prog 135 #[.agg #[.slice a n c, .int .i64 fuel], .int .i64 p, .slice a2 n2 c2] w (Answers w (progS ws fuel p words)) := by
  have parts := chk_parts hk
  rw [hn] at parts
  have HA := hide (fun W (h : IsInts W a2 words) => refAllWords_any a2 n2 c2 words W h hn2 hm2)
  unfold maxLen at hm2
  have HN := hide hn
  have HN2 := hide hn2
  have HK := hide hk
  clear hn hn2 hk
  have hw : Below w.heap.size w ((w.alloc (.cells #[.slice a n c, .int .i64 fuel] 27)).alloc (.cells #[.slice none 0 0, .int .i64 0] 27)) :=
    ((Below.refl _ _).alloc (Nat.le_refl _) _).alloc (by simp) _
  have b0 := hide (blk_alloc (heap_alloc_last w (.cells #[.slice a n c, .int .i64 fuel] 27)) (.cells #[.slice none 0 0, .int .i64 0] 27))
  have b1 : Hid (((w.alloc (.cells #[.slice a n c, .int .i64 fuel] 27)).alloc (.cells #[.slice none 0 0, .int .i64 0] 27)).heap[w.heap.size + 1]? = some (.cells #[.slice none 0 0, .int .i64 0] 27 (0, 0))) := by
    show _ = _
    simpa using heap_alloc_last (w.alloc _) _
  have i0 := h.below hw
  have i2 := h2.below hw
  go_enter Tryz.func135, Tryz.ntmps135
  go_upto_region 1 with fail
  generalize (w.alloc (.cells #[.slice a n c, .int .i64 fuel] 27)).alloc (.cells #[.slice none 0 0, .int .i64 0] 27) = W at *
  have x0 : W.cell? ⟨w.heap.size, 0, none⟩ = some (.slice a n c) := blk_cell b0.out 0 _ rfl
  have x1 : W.cell? ⟨w.heap.size, 1, none⟩ = some (.int .i64 fuel) := blk_cell b0.out 1 _ rfl
  have r0 := blk_cell b1.out 0 _ rfl
  have r1 := blk_cell b1.out 1 _ rfl
  have f0 := blk_free b1.out 0
  have f1 := blk_free b1.out 1
  have lt0 := blk_lt b0.out
  have lt1 := blk_lt b1.out
  go_cut [26] (fun v26 wx => v26 = .bool (!fitB n p n2) ∧ wx = W)
  case first =>
    by_cases s0 : p < 0
    {
    go_wp2_with fail
    go_meet
    case rel => exact ⟨congrArg Value.bool (by unfold fitB; simp; omega), rfl⟩
    }
    {
    have s0' : decide (p < 0) = false := by simp; omega
    by_cases s1 : (n : Int) < p
    {
    go_wp2_with fail
    go_meet
    case rel => exact ⟨congrArg Value.bool (by unfold fitB; simp; omega), rfl⟩
    }
    {
    have s1' : decide ((n : Int) < p) = false := by simp; omega
    by_cases s2 : (n : Int) - p < (n2 : Int)
    {
    go_wp2_with fail
    go_meet
    case rel => exact ⟨congrArg Value.bool (by unfold fitB; simp; omega), rfl⟩
    }
    {
    have s2' : decide ((n : Int) - p < (n2 : Int)) = false := by simp; omega
    go_wp2_with fail
    go_meet
    case rel => exact ⟨congrArg Value.bool (by unfold fitB; simp; omega), rfl⟩
    }
    }
    }
  case rest =>
    obtain ⟨rfl, hwc⟩ := hcut
    subst hwc
    cases hin : fitB n p n2
    {
    have hr : Hid (progS ws fuel p words = ([], 0, 5)) := by show _ = _; unfold progS; rw [if_neg (by simpa using HK.out), HN.out, HN2.out, if_pos hin]
    clear hin
    go_wp2
    refine bodyPost_ret (v := .tuple #[.agg #[.slice none 0 0, .int .i64 0], .int .i64 5]) (by simp [results, Tryz.results135, go_sem, r0, r1]) rfl ?_
    exact answers_err hr.out ((hw.setCell (by simp) _).setCell (by simp) _)
    }
    have hfit : 0 ≤ p ∧ (n2 : Int) ≤ (n : Int) - p := by unfold fitB at hin; simp at hin; omega
    obtain ⟨pn, rfl⟩ := Int.eq_ofNat_of_zero_le hfit.1
    have HFit := hide hin
    clear hin
    go_wp2_with fail
    refine (unhide HA _ i2).mono ?_
    rintro e wv ⟨rfl, rfl⟩
    cases hok : okL words
    {
    have hr : Hid (progS ws fuel pn words = ([], 0, 3)) := by show _ = _; unfold progS; rw [if_neg (by simpa using HK.out), HN.out, HN2.out, if_neg (by simp [HFit.out]), if_pos hok]
    clear hok
    go_wp2
    refine bodyPost_ret (v := .tuple #[.agg #[.slice none 0 0, .int .i64 0], .int .i64 3]) (by simp [results, Tryz.results135, go_sem, r0, r1]) rfl ?_
    exact answers_err hr.out ((hw.setCell (by simp) _).setCell (by simp) _)
    }
    have HR := hide (fun cs (hp : ProL pn words n2 cs) => chgS_pro (cs := cs) HK.out (by rw [HN2.out]; exact hp) (by rw [HN.out, HN2.out]; omega) hok)
    have HCh := hide (fun W' (al : Option Addr) (cl : Nat) (cs : List (Nat × Option (Nat × Int))) (hb : Below wv.heap.size wv W') (hl : IsChgs W' al cs) (hp : ProL pn words n2 cs) (hcl : n2 ≤ cl) => changed_any a n c ws fuel al n2 cl cs W' (i0.below hb) HN.out (by omega) (by omega) (by omega) hl hp.1 hcl (by omega) (fun c hc => by have := hp.lt c hc; omega))
    clear hok
    have HP := hide (fun W' (hb : Below wv.heap.size wv W') => programs_from pn a2 n2 c2 words W' (i2.below hb) HN2.out (by omega) (by omega))
    go_wp2_with fail
    go_region_held3 (fun w' => w'.cell? ⟨w.heap.size, 0, none⟩ = some (.slice a n c) ∧ w'.cell? ⟨w.heap.size, 1, none⟩ = some (.int .i64 fuel)) (first | exact ⟨by assumption, by assumption⟩ | go_keep)
      ((first | (go_at_call 179; refine (unhide HP _ ?_).mono ?_; exact (Below.refl _ _).drew; rintro e w5 ⟨al, cl, cs, rfl, hcl, hlc, hpl, hb5⟩; replace hb5 : Below wv.heap.size wv w5 := Below.trans (Below.refl _ wv).drew hb5; have z0 : w5.cell? ⟨w.heap.size, 0, none⟩ = some (.slice a n c) := (by rw [hb5.cell lt0]; exact x0); have z1 : w5.cell? ⟨w.heap.size, 1, none⟩ = some (.int .i64 fuel) := (by rw [hb5.cell lt0]; exact x1)) | (go_at_call 133; refine (unhide HCh _ _ _ cs ?_ ?_ ?_ ?_).mono ?_; exact hb5; exact hlc; exact hpl; exact hcl; rintro e w6 ⟨⟨a6, n6, c6, rfl, hi6, hn6, hc6, hf6⟩, hb6⟩; have hb7 : Below wv.heap.size wv w6 := (Below.trans (b := w5) hb5 (hb6.mono hb5.size)); have y0 : w6.cell? ⟨w.heap.size, 0, none⟩ = some (.slice a n c) := (by rw [hb7.cell lt0]; exact x0); have y1 : w6.cell? ⟨w.heap.size, 1, none⟩ = some (.int .i64 fuel) := (by rw [hb7.cell lt0]; exact x1); have q0 := blk_cell (blk_below b1.out hb7) 0 _ rfl; have q1 := blk_cell (blk_below b1.out hb7) 1 _ rfl; have q2 := blk_free (blk_below b1.out hb7) 0; have q3 := blk_free (blk_below b1.out hb7) 1)))
    go_wp2
    refine bodyPost_ret (v := .tuple #[.agg #[.slice a6 n6 c6, .int .i64 (chgS ws fuel cs).2.1], .int .i64 (chgS ws fuel cs).2.2]) (by simp [results, Tryz.results135, go_sem, q0, q1]) rfl ?_
    rw [← HR.out cs hpl]
    have hw7 := hw.trans (hb7.mono hw.size)
    refine ⟨⟨a6, n6, c6, rfl, ?_, hn6, hc6, FreshA.mono hf6 (by have := hw.size; have := hb5.size; omega)⟩, (hw7.setCell (by simp) _).setCell (by simp) _⟩
    exact (hi6.other (B := wv.heap.size) (FreshA.mono hf6 hb5.size) lt1 0 _).other (B := wv.heap.size) (FreshA.mono hf6 hb5.size) lt1 1 _

end Go.Proofs.YtgngpmgjoifepaaGreatDoor

namespace Go.Proofs.YtgngpmgjoifepaaGreatDoor
open Go.RowKit
attribute [local go_sem ↓] Go.wp_at_zero Go.wp_at_succ

theorem fillS_right {ws : List Int} {fuel s at' : Int} {words : List Int} (h : slotE ws fuel s = 0) : fillS ws fuel s at' words = if fillB at' words.length = false then ([], 0, 2) else progS ws fuel (68 + 64 * s + at') words := by
  unfold fillS; rw [if_neg (by simpa using h)]

theorem sealS_right {ws : List Int} {fuel s long name : Int} (h : slotE ws fuel s = 0) : sealS ws fuel s long name = if sealB long name = false then ([], 0, 3) else progS ws fuel (64 + 64 * s) (headL long name) := by
  unfold sealS; rw [if_neg (by simpa using h)]

set_option maxRecDepth 100000 in
set_option maxHeartbeats 2000000 in
theorem filled_any (a : Option Addr) (c : Nat) (ws : List Int) (fuel : Int) (sn : Nat) (at' : Int) (a2 : Option Addr) (n2 c2 : Nat) (words : List Int) (w : World) (h : IsInts w a ws) (hn : ws.length = 192) (hk : chk ws fuel = 0) (hs : sn ≤ 1) (h2 : IsInts w a2 words) (hn2 : words.length = n2) (hm2 : n2 ≤ maxLen) :
    Calls Tryz.prog 75 #[.agg #[.slice a 192 c, .int .i64 fuel], .int .i64 sn, .int .i64 at', .slice a2 n2 c2] w (Answers w (fillS ws fuel sn at' words)) := by
  have HS := hide (fillS_right (at' := at') (words := words) (slotE_ok hk hn hs))
  have HN := hide hn
  have HN2 := hide hn2
  have HK := hide hk
  clear hn hn2 hk
  have hw : Below w.heap.size w ((w.alloc (.cells #[.slice a 192 c, .int .i64 fuel] 27)).alloc (.cells #[.slice none 0 0, .int .i64 0] 27)) :=
    ((Below.refl _ _).alloc (Nat.le_refl _) _).alloc (by simp) _
  have b0 := hide (blk_alloc (heap_alloc_last w (.cells #[.slice a 192 c, .int .i64 fuel] 27)) (.cells #[.slice none 0 0, .int .i64 0] 27))
  have b1 : Hid (((w.alloc (.cells #[.slice a 192 c, .int .i64 fuel] 27)).alloc (.cells #[.slice none 0 0, .int .i64 0] 27)).heap[w.heap.size + 1]? = some (.cells #[.slice none 0 0, .int .i64 0] 27 (0, 0))) := by
    show _ = _
    simpa using heap_alloc_last (w.alloc _) _
  have i0 := h.below hw
  have i2 := h2.below hw
  have hm3 := hm2
  unfold maxLen at hm3
  go_enter Tryz.func75, Tryz.ntmps75
  go_upto_region 1 with fail
  generalize (w.alloc (.cells #[.slice a 192 c, .int .i64 fuel] 27)).alloc (.cells #[.slice none 0 0, .int .i64 0] 27) = W at *
  have x0 : W.cell? ⟨w.heap.size, 0, none⟩ = some (.slice a 192 c) := blk_cell b0.out 0 _ rfl
  have x1 : W.cell? ⟨w.heap.size, 1, none⟩ = some (.int .i64 fuel) := blk_cell b0.out 1 _ rfl
  have r0 := blk_cell b1.out 0 _ rfl
  have r1 := blk_cell b1.out 1 _ rfl
  have f0 := blk_free b1.out 0
  have f1 := blk_free b1.out 1
  have lt0 := blk_lt b0.out
  have lt1 := blk_lt b1.out
  go_cut [22] (fun v22 wx => v22 = .bool (!fillB at' n2) ∧ wx = W)
  case first =>
    by_cases s0 : at' < 0
    {
    go_wp2_with fail
    go_meet
    case rel => exact ⟨congrArg Value.bool (by unfold fillB inB; simp; omega), rfl⟩
    }
    {
    have s0' : decide (at' < 0) = false := by simp; omega
    by_cases s1 : 40 < at'
    {
    go_wp2_with fail
    go_meet
    case rel => exact ⟨congrArg Value.bool (by unfold fillB inB; simp; omega), rfl⟩
    }
    {
    have s1' : decide (40 < at') = false := by simp; omega
    by_cases s2 : 40 - at' < (n2 : Int)
    {
    go_wp2_with fail
    go_meet
    case rel => exact ⟨congrArg Value.bool (by unfold fillB inB; simp; omega), rfl⟩
    }
    {
    have s2' : decide (40 - at' < (n2 : Int)) = false := by simp; omega
    go_wp2_with fail
    go_meet
    case rel => exact ⟨congrArg Value.bool (by unfold fillB inB; simp; omega), rfl⟩
    }
    }
    }
  case rest =>
    obtain ⟨rfl, hwc⟩ := hcut
    subst hwc
    cases hin : fillB at' n2
    {
    have hr : Hid (fillS ws fuel sn at' words = ([], 0, 2)) := by show _ = _; rw [HS.out, HN2.out, if_pos hin]
    clear hin
    go_wp2
    refine bodyPost_ret (v := .tuple #[.agg #[.slice none 0 0, .int .i64 0], .int .i64 2]) (by simp [results, Tryz.results75, go_sem, r0, r1]) rfl ?_
    exact answers_err hr.out ((hw.setCell (by simp) _).setCell (by simp) _)
    }
    have q : 0 ≤ at' ∧ at' ≤ 40 := by unfold fillB inB at hin; simp at hin; omega
    have hr : Hid (fillS ws fuel sn at' words = progS ws fuel (64 + 64 * (sn : Int) + 4 + at') words) := by
      show _ = _
      rw [HS.out, HN2.out, if_neg (by simp [hin]), show 68 + 64 * (sn : Int) + at' = 64 + 64 * (sn : Int) + 4 + at' by omega]
    clear hin
    have HP := hide (programmed_any a 192 c ws fuel (64 + 64 * (sn : Int) + 4 + at') a2 n2 c2 words wc i0 HN.out HK.out i2 HN2.out hm2 (by omega))
    clear r0 r1 f0 f1
    go_wp2_with fail
    refine (unhide HP).mono ?_
    rintro e w6 ⟨⟨a6, n6, c6, rfl, hi6, hn6, hc6, hf6⟩, hb6⟩
    have q0 := blk_cell (blk_below b1.out hb6) 0 _ rfl
    have q1 := blk_cell (blk_below b1.out hb6) 1 _ rfl
    have q2 := blk_free (blk_below b1.out hb6) 0
    have q3 := blk_free (blk_below b1.out hb6) 1
    have HN6 := hide hn6
    clear hn6
    go_wp2
    refine bodyPost_ret (v := .tuple #[.agg #[.slice a6 n6 c6, .int .i64 (progS ws fuel (64 + 64 * (sn : Int) + 4 + at') words).2.1], .int .i64 (progS ws fuel (64 + 64 * (sn : Int) + 4 + at') words).2.2]) (by simp [results, Tryz.results75, go_sem, q0, q1]) rfl ?_
    rw [hr.out]
    have hw7 := hw.trans (hb6.mono hw.size)
    refine ⟨⟨a6, n6, c6, rfl, ?_, HN6.out, hc6, FreshA.mono hf6 hw.size⟩, (hw7.setCell (by simp) _).setCell (by simp) _⟩
    exact (hi6.other (B := wc.heap.size) hf6 lt1 0 _).other (B := wc.heap.size) hf6 lt1 1 _

theorem headL_sub {long name : Int} (h : sealB long name = true) : headL long name = [long, name, 65535 - long, 65535 - name] := by
  simp [sealB, inB] at h
  unfold headL
  rw [xorW_small (by omega) (by omega), xorW_small (by omega) (by omega)]

set_option maxRecDepth 100000 in
set_option maxHeartbeats 2000000 in
theorem sealedIn_any (a : Option Addr) (c : Nat) (ws : List Int) (fuel : Int) (sn : Nat) (long name : Int) (w : World) (h : IsInts w a ws) (hn : ws.length = 192) (hk : chk ws fuel = 0) (hs : sn ≤ 1) :
    Calls Tryz.prog 78 #[.agg #[.slice a 192 c, .int .i64 fuel], .int .i64 sn, .int .i64 long, .int .i64 name] w (Answers w (sealS ws fuel sn long name)) := by
  have HS := hide (sealS_right (long := long) (name := name) (slotE_ok hk hn hs))
  have HN := hide hn
  have HK := hide hk
  clear hn hk
  have hw : Below w.heap.size w ((w.alloc (.cells #[.slice a 192 c, .int .i64 fuel] 27)).alloc (.cells #[.slice none 0 0, .int .i64 0] 27)) :=
    ((Below.refl _ _).alloc (Nat.le_refl _) _).alloc (by simp) _
  have b0 := hide (blk_alloc (heap_alloc_last w (.cells #[.slice a 192 c, .int .i64 fuel] 27)) (.cells #[.slice none 0 0, .int .i64 0] 27))
  have b1 : Hid (((w.alloc (.cells #[.slice a 192 c, .int .i64 fuel] 27)).alloc (.cells #[.slice none 0 0, .int .i64 0] 27)).heap[w.heap.size + 1]? = some (.cells #[.slice none 0 0, .int .i64 0] 27 (0, 0))) := by
    show _ = _
    simpa using heap_alloc_last (w.alloc _) _
  have i0 := h.below hw
  go_enter Tryz.func78, Tryz.ntmps78
  go_upto_region 1 with fail
  generalize (w.alloc (.cells #[.slice a 192 c, .int .i64 fuel] 27)).alloc (.cells #[.slice none 0 0, .int .i64 0] 27) = W at *
  have x0 : W.cell? ⟨w.heap.size, 0, none⟩ = some (.slice a 192 c) := blk_cell b0.out 0 _ rfl
  have x1 : W.cell? ⟨w.heap.size, 1, none⟩ = some (.int .i64 fuel) := blk_cell b0.out 1 _ rfl
  have r0 := blk_cell b1.out 0 _ rfl
  have r1 := blk_cell b1.out 1 _ rfl
  have f0 := blk_free b1.out 0
  have f1 := blk_free b1.out 1
  have lt0 := blk_lt b0.out
  have lt1 := blk_lt b1.out
  go_cut [23] (fun v23 wx => v23 = .bool (!sealB long name) ∧ wx = W)
  case first =>
    by_cases s0 : long < 1
    {
    go_wp2_with fail
    go_meet
    case rel => exact ⟨congrArg Value.bool (by unfold sealB inB; simp; omega), rfl⟩
    }
    {
    have s0' : decide (long < 1) = false := by simp; omega
    by_cases s1 : 40 < long
    {
    go_wp2_with fail
    go_meet
    case rel => exact ⟨congrArg Value.bool (by unfold sealB inB; simp; omega), rfl⟩
    }
    {
    have s1' : decide (40 < long) = false := by simp; omega
    by_cases s2 : name < 1
    {
    go_wp2_with fail
    go_meet
    case rel => exact ⟨congrArg Value.bool (by unfold sealB inB; simp; omega), rfl⟩
    }
    {
    have s2' : decide (name < 1) = false := by simp; omega
    by_cases s3 : 60 < name
    {
    go_wp2_with fail
    go_meet
    case rel => exact ⟨congrArg Value.bool (by unfold sealB inB; simp; omega), rfl⟩
    }
    {
    have s3' : decide (60 < name) = false := by simp; omega
    go_wp2_with fail
    go_meet
    case rel => exact ⟨congrArg Value.bool (by unfold sealB inB; simp; omega), rfl⟩
    }
    }
    }
    }
  case rest =>
    obtain ⟨rfl, hwc⟩ := hcut
    subst hwc
    cases hin : sealB long name
    {
    have hr : Hid (sealS ws fuel sn long name = ([], 0, 3)) := by show _ = _; rw [HS.out, if_pos hin]
    clear hin
    go_wp2
    refine bodyPost_ret (v := .tuple #[.agg #[.slice none 0 0, .int .i64 0], .int .i64 3]) (by simp [results, Tryz.results78, go_sem, r0, r1]) rfl ?_
    exact answers_err hr.out ((hw.setCell (by simp) _).setCell (by simp) _)
    }
    have q : 1 ≤ long ∧ long ≤ 40 ∧ 1 ≤ name ∧ name ≤ 60 := by unfold sealB inB at hin; simp at hin; omega
    have hr : Hid (sealS ws fuel sn long name = progS ws fuel (64 + 64 * (sn : Int)) [long, name, 65535 - long, 65535 - name]) := by
      show _ = _
      rw [HS.out, if_neg (by simp [hin]), headL_sub hin]
    clear hin
    have i2 := isInts_at wc wc.heap.size [long, name, 65535 - long, 65535 - name] #[.int .i64 long, .int .i64 name, .int .i64 (65535 - long), .int .i64 (65535 - name)] 3 rfl rfl
    have hba : Below wc.heap.size wc (wc.alloc (.cells #[.int .i64 long, .int .i64 name, .int .i64 (65535 - long), .int .i64 (65535 - name)] 3)) := (Below.refl _ _).alloc (Nat.le_refl _) _
    have HP := hide (programmed_any a 192 c ws fuel (64 + 64 * (sn : Int)) (some ⟨wc.heap.size, 0, none⟩) 4 4 [long, name, 65535 - long, 65535 - name] _ (i0.below hba) HN.out HK.out i2 rfl (by decide) (by omega))
    clear r0 r1 f0 f1
    go_wp2_with fail
    refine (unhide HP).mono ?_
    rintro e w6 ⟨⟨a6, n6, c6, rfl, hi6, hn6, hc6, hf6⟩, hb6⟩
    replace hf6 : FreshA wc.heap.size a6 := hf6.mono (by simp)
    replace hb6 : Below wc.heap.size wc w6 := hba.trans (hb6.mono hba.size)
    have q0 := blk_cell (blk_below b1.out hb6) 0 _ rfl
    have q1 := blk_cell (blk_below b1.out hb6) 1 _ rfl
    have q2 := blk_free (blk_below b1.out hb6) 0
    have q3 := blk_free (blk_below b1.out hb6) 1
    have HN6 := hide hn6
    clear hn6
    go_wp2
    refine bodyPost_ret (v := .tuple #[.agg #[.slice a6 n6 c6, .int .i64 (progS ws fuel (64 + 64 * (sn : Int)) [long, name, 65535 - long, 65535 - name]).2.1], .int .i64 (progS ws fuel (64 + 64 * (sn : Int)) [long, name, 65535 - long, 65535 - name]).2.2]) (by simp [results, Tryz.results78, go_sem, q0, q1]) rfl ?_
    rw [hr.out]
    have hw7 := hw.trans (hb6.mono hw.size)
    refine ⟨⟨a6, n6, c6, rfl, ?_, HN6.out, hc6, FreshA.mono hf6 hw.size⟩, (hw7.setCell (by simp) _).setCell (by simp) _⟩
    exact (hi6.other (B := wc.heap.size) hf6 lt1 0 _).other (B := wc.heap.size) hf6 lt1 1 _

end Go.Proofs.YtgngpmgjoifepaaGreatDoor
