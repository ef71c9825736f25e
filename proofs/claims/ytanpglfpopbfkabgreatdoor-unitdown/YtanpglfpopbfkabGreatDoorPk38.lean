/- Plain facts for SlotHolds: a slot that was cleared and filled piece by piece, then sealed as far as there is power. -/
import Derived.Test.YtanpglfpopbfkabGreatDoorPk37
import Derived.Test.YtanpglfpopbfkabGreatDoorPk15
namespace Go.Proofs.YtanpglfpopbfkabGreatDoor
open Go.RowKit

theorem xorW_all : ∀ x : Fin 61, xorW ((x.val : Nat) : Int) = 65535 - ((x.val : Nat) : Int) := by decide +kernel
theorem xorW_small {x : Int} (h0 : 0 ≤ x) (h1 : x ≤ 60) : xorW x = 65535 - x := by
  obtain ⟨k, rfl⟩ := Int.eq_ofNat_of_zero_le h0
  exact xorW_all ⟨k, by omega⟩

/-- The words of a slot that was cleared, and of which k words are filled; all else as in ws. -/
structure Fld (ws words : List Int) (s k : Nat) (G : List Int) : Prop where
  len : G.length = 192
  ok : okL G = true
  at' : ∀ i, i < 192 → G.getD i 0 = if 64 + 64 * s ≤ i ∧ i < 128 + 64 * s then (if 68 + 64 * s ≤ i ∧ i < 68 + 64 * s + k then words.getD (i - (68 + 64 * s)) 0 else 65535) else ws.getD i 0

theorem Fld.chk {ws words G : List Int} {s k : Nat} (h : Fld ws words s k G) {f : Int} (h0 : -1 ≤ f) (h1 : f ≤ 100000) : chk G f = 0 := by
  apply chk_ok
  · rw [h.len]; rfl
  · unfold rangeB; rw [h.ok]; simp; omega

theorem slotE_ok {G : List Int} {f : Int} {s : Nat} (hc : chk G f = 0) (hl : G.length = 192) (hs : s ≤ 1) : slotE G f s = 0 := by
  unfold slotE
  rw [if_neg (by simpa using hc), if_neg (by simpa using hl), if_neg (by simp [inB]; omega)]

theorem Fld.slot {ws words G : List Int} {s k t : Nat} (h : Fld ws words s k G) {f : Int} (h0 : -1 ≤ f) (h1 : f ≤ 100000) (ht : t ≤ 1) : slotE G f t = 0 :=
  slotE_ok (h.chk h0 h1) h.len ht

theorem okW_full : okW 65535 = true := by decide

theorem chg_full_ok {ws : List Int} {p k : Nat} (h : okL ws = true) : okL (chg (fun _ _ => 65535) p k ws) = true := by
  apply okL_of
  intro i hi
  rw [chg_length] at hi
  rw [chg_get _ _ _ _ _ hi]
  split
  · exact okW_full
  · exact okL_get h i hi

theorem era_full {ws : List Int} {k : Nat} (hc : chk ws (-1) = 0) (hk : k < 6) (hl : ws.length = 192) : eraS ws (-1) k = (chg (fun _ _ => 65535) (k * 32) 32 ws, -1, 0) := by
  unfold eraS
  rw [if_neg (by simpa using hc), if_neg (by rw [hl]; omega), cnt_neg _ (by decide), burn_negf _ (by decide), perr_ok (cnt_neg _ (by decide)), Int.toNat_natCast]

/-- Where Clear says OK with power for all. -/
theorem clr_done {ws words : List Int} {s : Nat} (hs : s ≤ 1) (h : (clrS ws (-1) s).2.2 = 0) : ∃ G, clrS ws (-1) s = (G, -1, 0) ∧ slotE ws (-1) s = 0 ∧ Fld ws words s 0 G := by
  by_cases e : slotE ws (-1) s = 0
  · obtain ⟨hc, hl, -, -⟩ := slotE_parts e
    have q := chk_parts hc
    have e1 : clrAt ws (-1) s 1 = (chg (fun _ _ => 65535) ((2 + s * 2) * 32) 32 ws, -1, 0) := by
      rw [clrAt_go rfl]
      show eraS ws (-1) (2 + (s : Int) * 2 + ((0 : Nat) : Int)) = _
      rw [show 2 + (s : Int) * 2 + ((0 : Nat) : Int) = ((2 + s * 2 : Nat) : Int) by omega]
      exact era_full hc (by omega) hl
    have hc1 : chk (chg (fun _ _ => 65535) ((2 + s * 2) * 32) 32 ws) (-1) = 0 := chk_chg hc _ _ _ (chg_full_ok q.2.2.2) (by decide) (by decide)
    have e2 : clrAt ws (-1) s 2 = (chg (fun _ _ => 65535) ((3 + s * 2) * 32) 32 (chg (fun _ _ => 65535) ((2 + s * 2) * 32) 32 ws), -1, 0) := by
      have hl1 : (chg (fun _ _ => 65535) ((2 + s * 2) * 32) 32 ws).length = 192 := by rw [chg_length]; exact hl
      rw [clrAt_go (by rw [e1]), e1, show 2 + (s : Int) * 2 + ((1 : Nat) : Int) = ((3 + s * 2 : Nat) : Int) by omega]
      generalize chg (fun _ _ => 65535) ((2 + s * 2) * 32) 32 ws = X at *
      dsimp only
      exact era_full (k := 3 + s * 2) hc1 (by omega) hl1
    refine ⟨chg (fun _ _ => 65535) ((3 + s * 2) * 32) 32 (chg (fun _ _ => 65535) ((2 + s * 2) * 32) 32 ws), ?_, e, ⟨?_, ?_, ?_⟩⟩
    · unfold clrS; rw [if_neg (by simpa using e), e2]
    · rw [chg_length, chg_length]; exact hl
    · exact chg_full_ok (chg_full_ok q.2.2.2)
    · intro i hi
      rw [chg_get _ _ _ _ _ (by rw [chg_length, hl]; exact hi), chg_get _ _ _ _ _ (by rw [hl]; exact hi)]
      by_cases c1 : (3 + s * 2) * 32 ≤ i ∧ i < (3 + s * 2) * 32 + 32
      · rw [if_pos c1, if_pos (by omega), if_neg (by omega)]
      · rw [if_neg c1]
        by_cases c2 : (2 + s * 2) * 32 ≤ i ∧ i < (2 + s * 2) * 32 + 32
        · rw [if_pos c2, if_pos (by omega), if_neg (by omega)]
        · rw [if_neg c2, if_neg (by omega)]
  · unfold clrS at h
    rw [if_pos e] at h
    exact absurd h e

/-- A piece more. -/
theorem fill_step {ws words G : List Int} {s k l : Nat} (h : Fld ws words s k G) (hs : s ≤ 1) (hk : k + l ≤ words.length) (hm : words.length ≤ 40) :
    (okL ((words.drop k).take l) = false ∧ fillS G (-1) s k ((words.drop k).take l) = ([], 0, 3)) ∨
    (okL ((words.drop k).take l) = true ∧ ∃ G', fillS G (-1) s k ((words.drop k).take l) = (G', -1, 0) ∧ Fld ws words s (k + l) G') := by
  have hlen : ((words.drop k).take l).length = l := by simp; omega
  have hE := h.slot (f := -1) (t := s) (by decide) (by decide) hs
  have hB : fillB (k : Int) ((words.drop k).take l).length = true := by rw [hlen]; simp [fillB, inB]; omega
  have hp : (68 + 64 * (s : Int) + (k : Int)) = ((68 + 64 * s + k : Nat) : Int) := by omega
  have hc := h.chk (f := -1) (by decide) (by decide)
  have hfs : fillS G (-1) s k ((words.drop k).take l) = progS G (-1) ((68 + 64 * s + k : Nat) : Int) ((words.drop k).take l) := by
    unfold fillS
    rw [if_neg (by simpa using hE), if_neg (by rw [hB]; decide), hp]
  rw [hfs]
  cases hok : okL ((words.drop k).take l)
  · left
    refine ⟨rfl, ?_⟩
    unfold progS
    rw [if_neg (by simpa using hc), if_neg (by rw [hlen, h.len]; simp [fitB]; omega), if_pos hok]
  · right
    refine ⟨rfl, _, prog_full hc (by rw [hlen, h.len]; omega) hok, ⟨by rw [chg_length]; exact h.len, chg_ok h.ok hok (Nat.le_refl _) (by rw [hlen, h.len]; omega), ?_⟩⟩
    intro i hi
    rw [chg_get _ _ _ _ _ (by rw [h.len]; exact hi), hlen, h.at' i hi]
    by_cases c1 : 68 + 64 * s + k ≤ i ∧ i < 68 + 64 * s + k + l
    · rw [if_pos c1, if_pos (by omega), if_neg (by omega), if_pos (by omega), if_pos (by omega)]
      unfold andW
      have hw := okL_get hok (i - (68 + 64 * s + k)) (by rw [hlen]; omega)
      rw [and_full hw]
      have : i - (68 + 64 * s) = k + (i - (68 + 64 * s + k)) := by omega
      rw [this]
      simp [show i - (68 + 64 * s + k) < l by omega]
    · rw [if_neg c1]
      by_cases c2 : 64 + 64 * s ≤ i ∧ i < 128 + 64 * s
      · rw [if_pos c2, if_pos c2]
        by_cases c3 : 68 + 64 * s ≤ i ∧ i < 68 + 64 * s + k
        · rw [if_pos c3, if_pos (by omega)]
        · rw [if_neg c3, if_neg (by omega)]
      · rw [if_neg c2, if_neg c2]

theorem headL_len (a b : Int) : (headL a b).length = 4 := rfl

theorem headL_ok {m name : Int} (h : sealB m name = true) : okL (headL m name) = true := by
  simp [sealB, inB] at h
  have e1 := xorW_small (x := m) (by omega) (by omega)
  have e2 := xorW_small (x := name) (by omega) (by omega)
  unfold headL
  rw [e1, e2]
  simp [okL, okW]
  omega

/-- The words of a slot that is being sealed: k words of the head are there. -/
structure Sld (G : List Int) (s k : Nat) (m name : Int) (H : List Int) : Prop where
  len : H.length = 192
  ok : okL H = true
  at' : ∀ i, i < 192 → H.getD i 0 = if 64 + 64 * s ≤ i ∧ i < 64 + 64 * s + k then (headL m name).getD (i - (64 + 64 * s)) 0 else G.getD i 0

/-- What Image says of a slot that is being sealed. -/
theorem seal_image {ws words G H : List Int} {s k : Nat} {name fu : Int} (h : Fld ws words s words.length G) (hH : Sld G s k words.length name H) (hs : s ≤ 1) (hk : k ≤ 4) (hB : sealB words.length name = true) (h0 : -1 ≤ fu) (h1 : fu ≤ 100000) :
    imgS H fu s = if k = 4 then (words, name, 0) else ([], 0, 4) := by
  have hB' : (1 ≤ (words.length : Int) ∧ (words.length : Int) ≤ 40) ∧ 1 ≤ name ∧ name ≤ 60 := by simpa [sealB, inB] using hB
  have x1 := xorW_small (x := (words.length : Int)) (by omega) (by omega)
  have x2 := xorW_small (x := name) (by omega) (by omega)
  have hc : chk H fu = 0 := by
    apply chk_ok
    · rw [hH.len]; rfl
    · unfold rangeB; rw [hH.ok]; simp; omega
  have hE := slotE_ok (s := s) hc hH.len hs
  have hp : (64 + 64 * (s : Int)).toNat = 64 + 64 * s := by omega
  have hp2 : (68 + 64 * (s : Int)).toNat = 68 + 64 * s := by omega
  have g : ∀ j, j < 4 → H.getD (64 + 64 * s + j) 0 = if j < k then (headL words.length name).getD j 0 else 65535 := by
    intro j hj
    rw [hH.at' _ (by omega)]
    by_cases c : j < k
    · rw [if_pos (by omega), if_pos c]
      congr 1
      omega
    · rw [if_neg (by omega), if_neg c, h.at' _ (by omega), if_pos (by omega), if_neg (by omega)]
  have g0 := g 0 (by omega)
  have g1 := g 1 (by omega)
  have g2 := g 2 (by omega)
  have g3 := g 3 (by omega)
  simp only [Nat.add_zero] at g0
  unfold imgS
  rw [if_neg (by simpa using hE), hp, hp2]
  by_cases c4 : k = 4
  · subst c4
    rw [if_pos (by omega)] at g0 g1 g2 g3
    have hh : headB H (64 + 64 * s) = true := by
      unfold headB
      rw [g0, g1, g2, g3]
      simp [headL, hB]
    rw [if_neg (by simp [hh]), if_pos rfl, g0, g1]
    have : (H.drop (68 + 64 * s)).take words.length = words := by
      apply ext_getD
      · simp [hH.len]; omega
      · intro i hi
        have hi2 : i < words.length := by simp [hH.len] at hi; omega
        have := hH.at' (68 + 64 * s + i) (by omega)
        rw [if_neg (by omega), h.at' _ (by omega), if_pos (by omega), if_pos (by omega)] at this
        have e : 68 + 64 * s + i - (68 + 64 * s) = i := by omega
        rw [e] at this
        rw [← this]
        simp [hi2]
    simp [headL, this]
  · rw [if_neg c4, if_pos ?_]
    unfold headB
    rw [g0, g1, g2, g3]
    rcases k with _ | _ | _ | _ | k
    · simp [sealB, inB]
    · simp [sealB, inB]
    · simp [headL, x1, x2]
      intro _
      omega
    · simp [headL, x1, x2]
      intro _
      omega
    · omega

/-- Image of a slot in two flashes that agree there. -/
theorem img_same {ws H : List Int} {f f' : Int} {t : Nat} (hE : slotE ws f t = 0) (hE' : slotE H f' t = 0) (ht : t ≤ 1) (hl : ws.length = 192) (hl' : H.length = 192) (hg : ∀ i, 64 + 64 * t ≤ i → i < 128 + 64 * t → H.getD i 0 = ws.getD i 0) : imgS H f' t = imgS ws f t := by
  have hp : (64 + 64 * (t : Int)).toNat = 64 + 64 * t := by omega
  have hp2 : (68 + 64 * (t : Int)).toNat = 68 + 64 * t := by omega
  have hh : headB H (64 + 64 * t) = headB ws (64 + 64 * t) := by
    unfold headB
    rw [hg _ (by omega) (by omega), hg _ (by omega) (by omega), hg _ (by omega) (by omega), hg _ (by omega) (by omega)]
  unfold imgS
  rw [if_neg (show ¬ slotE H f' t ≠ 0 by simpa using hE'), if_neg (show ¬ slotE ws f t ≠ 0 by simpa using hE), hp, hp2, hh, hg (64 + 64 * t) (by omega) (by omega), hg (64 + 64 * t + 1) (by omega) (by omega)]
  cases hb : headB ws (64 + 64 * t)
  · rfl
  · have hs : sealB (ws.getD (64 + 64 * t) 0) (ws.getD (64 + 64 * t + 1) 0) = true := by unfold headB at hb; simp only [Bool.and_eq_true] at hb; exact hb.1
    have hb2 : 1 ≤ ws.getD (64 + 64 * t) 0 ∧ ws.getD (64 + 64 * t) 0 ≤ 40 := by unfold sealB inB at hs; simp only [Bool.and_eq_true, decide_eq_true_eq] at hs; exact hs.1
    generalize ws.getD (64 + 64 * t) 0 = L at *
    have : (H.drop (68 + 64 * t)).take L.toNat = (ws.drop (68 + 64 * t)).take L.toNat := by
      apply ext_getD
      · simp [hl, hl']
      · intro i hi
        have hi2 : i < L.toNat := by simp at hi; omega
        have := hg (68 + 64 * t + i) (by omega) (by omega)
        simpa [hi2] using this
    rw [this]

end Go.Proofs.YtanpglfpopbfkabGreatDoor
