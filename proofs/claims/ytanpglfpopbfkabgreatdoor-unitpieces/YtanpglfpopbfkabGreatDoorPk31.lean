/- What package unit leaves is as long as what it is given, or nothing. No program in this text. -/
import Derived.Test.YtanpglfpopbfkabGreatDoorPk23
namespace Go.Proofs.YtanpglfpopbfkabGreatDoor
open Go.RowKit

/-- As long, or nothing. -/
def Lk (xs ys : List Int) : Prop := ys.length = xs.length ∨ ys = []
theorem Lk.refl (xs : List Int) : Lk xs xs := .inl rfl
theorem Lk.nil (xs : List Int) : Lk xs [] := .inr rfl
theorem Lk.trans {xs ys zs : List Int} (h : Lk xs ys) (h2 : Lk ys zs) : Lk xs zs := by
  rcases h2 with h2 | h2
  · rcases h with h | h
    · exact .inl (h2.trans h)
    · subst h; exact .inr (List.eq_nil_of_length_eq_zero h2)
  · exact .inr h2
theorem progS_lk (ws : List Int) (fuel p : Int) (words : List Int) : Lk ws (progS ws fuel p words).1 := by
  unfold progS
  split
  · exact Lk.nil _
  · split
    · exact Lk.nil _
    · split
      · exact Lk.nil _
      · exact .inl (chg_length ..)
theorem eraS_lk (ws : List Int) (fuel s : Int) : Lk ws (eraS ws fuel s).1 := by
  unfold eraS
  split
  · exact Lk.nil _
  · split
    · exact Lk.nil _
    · exact .inl (chg_length ..)
theorem doS_lk (st : Stp) (ws : List Int) (f : Int) : Lk ws (doS st ws f).1 := by
  cases st with
  | inl s => exact eraS_lk _ _ _
  | inr q => obtain ⟨p, words⟩ := q; exact progS_lk _ _ _ _
theorem turnS_lk (sts : List Stp) : ∀ (ws : List Int) (f : Int), Lk ws (turnS sts ws f).1 := by
  induction sts with
  | nil => intro ws f; exact Lk.refl _
  | cons st r ih =>
    intro ws f
    by_cases h : (doS st ws f).2.2 = 0
    · rw [turnS_go h]; exact (doS_lk _ _ _).trans (ih _ _)
    · rw [turnS_stop h]; exact doS_lk _ _ _
theorem clrAt_lk (ws : List Int) (f s : Int) (k : Nat) : Lk ws (clrAt ws f s k).1 := by
  induction k with
  | zero => exact Lk.refl _
  | succ k ih =>
    show Lk ws (if _ then _ else _ : List Int × Int × Int).1
    split
    · exact ih
    · exact ih.trans (eraS_lk _ _ _)
theorem doT_lk (st : Stu) (ws : List Int) (f : Int) : Lk ws (doT st ws f).1 := by
  rcases st with (_ | s) | (⟨s, p, words⟩ | (⟨s, l, nm⟩ | ⟨s, r⟩))
  · show Lk _ (fmtS ws f).1
    unfold fmtS
    split
    · exact Lk.nil _
    · exact turnS_lk _ _ _
  · show Lk _ (clrS ws f s).1
    unfold clrS
    split
    · exact Lk.nil _
    · exact clrAt_lk _ _ _ _
  · show Lk _ (fillS ws f s p words).1
    unfold fillS
    split
    · exact Lk.nil _
    · split
      · exact Lk.nil _
      · exact progS_lk _ _ _ _
  · show Lk _ (sealS ws f s l nm).1
    unfold sealS
    split
    · exact Lk.nil _
    · split
      · exact Lk.nil _
      · exact progS_lk _ _ _ _
  · show Lk _ (appS ws f r (keepU s)).1
    unfold appS
    split
    · exact Lk.nil _
    · exact turnS_lk _ _ _
theorem doV_lk (u : Un) (st : Stu) : Lk u.ws (doV u st).1.ws := by
  unfold doV doU
  split
  · exact doT_lk _ _ _
  · split
    · exact doT_lk _ _ _
    · exact Lk.refl _
theorem pieceA_lk (u : Un) (s : Us) (m : Ms) : Lk u.ws (pieceA u s m).1.ws := by
  unfold pieceA
  split
  · split
    · exact doV_lk _ _
    · exact doV_lk _ _
  · exact Lk.refl _
theorem pieceB_lk (u : Un) (s : Us) (m : Ms) : Lk u.ws (pieceB u s m).ws := by
  unfold pieceB
  split
  · split
    · exact doV_lk _ _
    · exact doV_lk _ _
  · exact Lk.refl _
theorem pieceS_lk (u : Un) (s : Us) (m : Ms) : Lk u.ws (pieceS u s m).ws := by
  unfold pieceS
  split
  · exact Lk.refl _
  · split
    · exact (pieceA_lk u s m).trans (pieceB_lk _ _ _)
    · exact pieceA_lk u s m
theorem prepC_lk (u : Un) (s : Us) (m : Ms) : Lk u.ws (prepC u s m).1.ws := by
  unfold prepC
  split <;> exact doV_lk _ _
theorem prepB_lk (u : Un) (s : Us) (m : Ms) (words : List Int) : Lk u.ws (prepB u s m words).1.ws := by
  unfold prepB
  split
  · split
    · exact (doV_lk u (.sea (oth s) m.at' m.im)).trans (prepC_lk (mind (doV u (.sea (oth s) m.at' m.im)).1 0 0) _ _)
    · exact doV_lk u (.sea (oth s) m.at' m.im)
  · exact doV_lk _ _
theorem prepS_lk (ss : List ByteArray) (u : Un) (s : Us) (m : Ms) : Lk u.ws (prepS ss u s m).1.ws := by
  unfold prepS
  split
  · exact Lk.refl _
  · split
    · exact Lk.refl _
    · split
      · exact prepB_lk _ _ _ _
      · exact Lk.refl _
theorem comS_lk (u : Un) (s : Us) (m : Ms) : Lk u.ws (comS u s m).1.ws := by
  unfold comS
  split
  · exact Lk.refl _
  · split
    · exact Lk.refl _
    · split <;> exact doV_lk _ _
theorem aboB_lk (u : Un) (m : Ms) : Lk u.ws (aboB u m).1.ws := by
  unfold aboB
  show Lk u.ws (if _ then _ else _ : Un).ws
  split <;> exact Lk.refl _
theorem aboS_lk (u : Un) (s : Us) (m : Ms) : Lk u.ws (aboS u s m).1.ws := by
  unfold aboS
  split
  · exact Lk.refl _
  · split
    · split
      · exact (doV_lk u (.not s [3, m.n])).trans (aboB_lk _ _)
      · exact doV_lk _ _
    · exact aboB_lk _ _
theorem hearK_lk (ss : List ByteArray) (u : Un) (m : Ms) : Lk u.ws (hearK ss u m).1.ws := by
  unfold hearK
  split
  · exact pieceS_lk _ _ _
  · split
    · exact prepS_lk _ _ _ _
    · split
      · exact comS_lk _ _ _
      · split
        · exact aboS_lk _ _ _
        · exact Lk.refl _

end Go.Proofs.YtanpglfpopbfkabGreatDoor
