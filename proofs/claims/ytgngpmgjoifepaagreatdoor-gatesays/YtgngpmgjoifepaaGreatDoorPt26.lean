/- The contract of gate.Due. Plain facts on the texts and the book of the closed fact written; targets and texts just laid. The closed fact: an offer is taken, not twice, not too late, not unsigned (wainwrightlaw.simple, trusted). Closed plain facts for wainwrightlaw.gated: a new gateway begins a campaign, counts its one vote, and ends it. No program in this text. -/
import Derived.Test.YtgngpmgjoifepaaGreatDoorPt18
import Derived.Test.YtgngpmgjoifepaaGreatDoorPt25
import Derived.Test.YtgngpmgjoifepaaGreatDoorPt20
import Derived.Test.YtgngpmgjoifepaaGreatDoorPt9
import Derived.Test.YtgngpmgjoifepaaGreatDoorPt22
import Derived.Test.YtgngpmgjoifepaaGreatDoorPt17
import Derived.Test.YtgngpmgjoifepaaGreatDoorPt23
import Derived.Test.YtgngpmgjoifepaaGreatDoorPt24
namespace Go.Proofs.YtgngpmgjoifepaaGreatDoor
open Go.RowKit
attribute [local go_sem ↓] Go.wp_at_zero Go.wp_at_succ

def DuAns (w : World) (r : List Ms × Int) (e : Ending) (w' : World) : Prop := (∃ a n c, e = .returned (.tuple #[.slice a n c, .int .i64 r.2]) ∧ IsMsw w' a r.1 ∧ r.1.length = n ∧ n ≤ c ∧ FreshA w.heap.size a) ∧ Below w.heap.size w w'
theorem duAns_nil {w w' : World} {q : Int} {r : List Ms × Int} (hr : r = ([], q)) (h : Below w.heap.size w w') : DuAns w r (.returned (.tuple #[.slice none 0 0, .int .i64 q])) w' := by
  subst hr
  exact ⟨⟨none, 0, 0, rfl, .inl rfl, rfl, Nat.le_refl _, FreshA.nil _⟩, h⟩
theorem gDue_e {g : Gt} {cn : Int} {ts : List T3} {ims : List (List Int)} {u q : Int} (h : dueE g cn ts ims u = q) (hq : q ≠ 0) : gDue g cn ts ims u = ([], q) := by unfold gDue; rw [h, if_pos hq]
theorem dueE_1 {g : Gt} {cn : Int} {ts : List T3} {ims : List (List Int)} {u : Int} (h : upE g ≠ 0) : dueE g cn ts ims u = upE g := by unfold dueE; rw [if_pos h]
theorem dueE_2 {g : Gt} {cn : Int} {ts : List T3} {ims : List (List Int)} {u : Int} (h : upE g = 0) (h2 : (gOf g.ws).n = 0 ∨ (gOf g.ws).en = true) : dueE g cn ts ims u = 12 := by
  unfold dueE; rw [if_neg (by simpa using h), if_pos (by rcases h2 with h2 | h2 <;> simp [h2])]
theorem dueE_3 {g : Gt} {cn : Int} {ts : List T3} {ims : List (List Int)} {u : Int} (h : upE g = 0) (h2 : (gOf g.ws).n ≠ 0) (h3 : (gOf g.ws).en = false) (h4 : inB u 0 ((g.vo.length : Int) - 1) = false ∨ cn ≠ (gOf g.ws).n ∨ (ims.length : Int) ≤ u ∨ (ts.length : Int) ≤ u) : dueE g cn ts ims u = 5 := by
  unfold dueE; rw [if_neg (by simpa using h), if_neg (by simp [h2, h3]), if_neg]
  rcases h4 with h4 | h4 | h4 | h4
  { simp [h4] }
  { simp [h4] }
  { simp [show ¬ u < (ims.length : Int) by omega] }
  { simp [show ¬ u < (ts.length : Int) by omega] }
theorem dueE_0 {g : Gt} {cn : Int} {ts : List T3} {ims : List (List Int)} {u : Int} (h : upE g = 0) (h2 : (gOf g.ws).n ≠ 0) (h3 : (gOf g.ws).en = false) (h4 : inB u 0 ((g.vo.length : Int) - 1) = true) (h5 : cn = (gOf g.ws).n) (h6 : u < (ims.length : Int)) (h7 : u < (ts.length : Int)) : dueE g cn ts ims u = 0 := by
  unfold dueE; rw [if_neg (by simpa using h), if_neg (by simp [h2, h3]), if_pos (by simp [h4, h5, h6, h7])]
theorem gDue_d {g : Gt} {cn : Int} {ts : List T3} {ims : List (List Int)} {u : Int} (h : dueE g cn ts ims u = 0) (h2 : decG (gOf g.ws) = true) : gDue g cn ts ims u = (if g.di.getD u.toNat false = true then [] else [verd (gOf g.ws) u (gOf g.ws).n], 0) := by unfold gDue; rw [if_neg (by simpa using h), if_pos h2]
theorem gDue_v {g : Gt} {cn : Int} {ts : List T3} {ims : List (List Int)} {u : Int} (h : dueE g cn ts ims u = 0) (h2 : decG (gOf g.ws) = false) (h3 : g.vo.getD u.toNat false = true) : gDue g cn ts ims u = ([], 0) := by unfold gDue; rw [if_neg (by simpa using h), if_neg (by rw [h2]; decide), if_pos h3]
theorem gDue_m {g : Gt} {cn : Int} {ts : List T3} {ims : List (List Int)} {u : Int} (h : dueE g cn ts ims u = 0) (h2 : decG (gOf g.ws) = false) (h3 : g.vo.getD u.toNat false = false) (h4 : 40 < (ims.getD u.toNat []).length) : gDue g cn ts ims u = ([], 2) := by unfold gDue; rw [if_neg (by simpa using h), if_neg (by rw [h2]; decide), if_neg (by rw [h3]; decide), if_pos h4]
theorem gDue_p {g : Gt} {cn : Int} {ts : List T3} {ims : List (List Int)} {u : Int} (h : dueE g cn ts ims u = 0) (h2 : decG (gOf g.ws) = false) (h3 : g.vo.getD u.toNat false = false) (h4 : ¬ 40 < (ims.getD u.toNat []).length) : gDue g cn ts ims u = (delG cn u (ts.getD u.toNat (0, 0, 0)).2.1 (ims.getD u.toNat []), 0) := by unfold gDue; rw [if_neg (by simpa using h), if_neg (by rw [h2]; decide), if_neg (by rw [h3]; decide), if_neg h4]
theorem bools_at {w : World} {a : Option Addr} {n c : Nat} {bs : List Bool} (h : BV w a n c bs) (u : Nat) (hu : u < bs.length) : ∃ b off, a = some ⟨b, off, none⟩ ∧ w.cell? ⟨b, off + u, none⟩ = some (.bool (bs.getD u false)) := by
  rcases h.at_ with h | ⟨b, off, ha, hc⟩
  { subst h; simp at hu }
  { exact ⟨b, off, ha, hc u hu⟩ }
theorem dueR {W W' : World} {B S bd od : Nat} {cs : Array Value} {t : TypeId} {vd : Value} {s : Gs} {x : Bool} (hB : W.heap[B]? = some (.cells cs t (0, 0))) (h8 : cs[8]? = some vd) (hS : W.heap[S]? = some (gsO s)) (hd : W.cell? ⟨bd, od, none⟩ = some (.bool x)) (h : Below W.heap.size W W') :
    W'.cell? ⟨B, 8, none⟩ = some vd ∧ W'.cell? ⟨bd, od, none⟩ = some (.bool x) ∧ (W'.cell? ⟨S, 0, none⟩ = some (.int .i64 s.n) ∧ W'.cell? ⟨S, 1, none⟩ = some (.int .i64 s.v) ∧ W'.cell? ⟨S, 2, none⟩ = some (.bool s.co) ∧ W'.cell? ⟨S, 3, none⟩ = some (.bool s.ab) ∧ W'.cell? ⟨S, 4, none⟩ = some (.bool s.en)) ∧ Below W.heap.size W W' := by
  have x := blk_below hS h
  unfold gsO at x
  exact ⟨blk_cell (blk_below hB h) 8 _ h8, (h.cell (cell_lt hd)).trans hd, ⟨blk_cell x 0 _ rfl, blk_cell x 1 _ rfl, blk_cell x 2 _ rfl, blk_cell x 3 _ rfl, blk_cell x 4 _ rfl⟩, h⟩

set_option maxRecDepth 100000 in
set_option maxHeartbeats 6400000 in
theorem gateDue_any (g : Gt) (k0 : GA) (cn cv cu : Int) (m : CA) (ts : List T3) (ims : List (List Int)) (u : Int) (w : World) (h : GIn w k0 g) (ht : BT w m.at_ m.nt ts) (hi : BL w m.ai m.ni ims) :
    Calls Tryz.prog 44 #[gtv g k0, cpv cn cv cu m, .int .i64 u] w (DuAns w (gDue g cn ts ims u)) := by
  have hw : Below w.heap.size w ((w.alloc (.cells #[.slice k0.a k0.n k0.c, .int .i64 g.fu, .bool g.up, .int .i64 g.t.r.v, .slice k0.ak k0.nk k0.ck, .int .i64 g.t.r.t, .int .i64 g.t.ver, .slice k0.av k0.nv k0.cv, .slice k0.ad k0.nd k0.cd] 68)).alloc (.cells #[.int .i64 cn, .int .i64 cv, .int .i64 cu, .slice m.at_ m.nt m.ct, .slice m.ai m.ni m.ci] 93)) := ((Below.refl _ _).alloc (Nat.le_refl _) _).alloc (by simp) _
  have b0 : Hid (((w.alloc (.cells #[.slice k0.a k0.n k0.c, .int .i64 g.fu, .bool g.up, .int .i64 g.t.r.v, .slice k0.ak k0.nk k0.ck, .int .i64 g.t.r.t, .int .i64 g.t.ver, .slice k0.av k0.nv k0.cv, .slice k0.ad k0.nd k0.cd] 68)).alloc (.cells #[.int .i64 cn, .int .i64 cv, .int .i64 cu, .slice m.at_ m.nt m.ct, .slice m.ai m.ni m.ci] 93)).heap[w.heap.size]? = some (.cells #[.slice k0.a k0.n k0.c, .int .i64 g.fu, .bool g.up, .int .i64 g.t.r.v, .slice k0.ak k0.nk k0.ck, .int .i64 g.t.r.t, .int .i64 g.t.ver, .slice k0.av k0.nv k0.cv, .slice k0.ad k0.nd k0.cd] 68 (0, 0))) := blk_alloc (heap_alloc_last _ _) _
  have b1 : Hid (((w.alloc (.cells #[.slice k0.a k0.n k0.c, .int .i64 g.fu, .bool g.up, .int .i64 g.t.r.v, .slice k0.ak k0.nk k0.ck, .int .i64 g.t.r.t, .int .i64 g.t.ver, .slice k0.av k0.nv k0.cv, .slice k0.ad k0.nd k0.cd] 68)).alloc (.cells #[.int .i64 cn, .int .i64 cv, .int .i64 cu, .slice m.at_ m.nt m.ct, .slice m.ai m.ni m.ci] 93)).heap[w.heap.size + 1]? = some (.cells #[.int .i64 cn, .int .i64 cv, .int .i64 cu, .slice m.at_ m.nt m.ct, .slice m.ai m.ni m.ci] 93 (0, 0))) := uLast1 _ _ _
  have HU := hide (fun W (hW : Below w.heap.size w W) => stateUp_any g k0 W (h.below hW))
  have HN := hide (fun W (hW : Below w.heap.size w W) => isUnit_any g k0 u W (h.below hW))
  have HP := hide h
  have HTs := hide ht
  have HIs := hide hi
  clear h ht hi
  unfold gtv at HU HN
  unfold gtv cpv
  go_enter Tryz.func44, Tryz.ntmps44
  go_wp2_with fail
  generalize ((w.alloc (.cells #[.slice k0.a k0.n k0.c, .int .i64 g.fu, .bool g.up, .int .i64 g.t.r.v, .slice k0.ak k0.nk k0.ck, .int .i64 g.t.r.t, .int .i64 g.t.ver, .slice k0.av k0.nv k0.cv, .slice k0.ad k0.nd k0.cd] 68)).alloc (.cells #[.int .i64 cn, .int .i64 cv, .int .i64 cu, .slice m.at_ m.nt m.ct, .slice m.ai m.ni m.ci] 93)) = W at *
  refine (unhide HU _ hw).mono ?_
  rintro e w1 ⟨rfl, hb⟩
  replace b0 := hide (blk_below b0.out hb)
  replace b1 := hide (blk_below b1.out hb)
  replace hw := hw.trans (hb.mono hw.size)
  clear hb HU
  by_cases z1 : upE g = 0
  rotate_left
  {
  have HE := hide (gDue_e (dueE_1 (cn := cn) (ts := ts) (ims := ims) (u := u) z1) z1)
  have d1 : (upE g != 0) = true := by simpa using z1
  rw [gUpS_no z1]
  unfold gsv gs0
  replace hw : Below w.heap.size w (w1.alloc (.cells #[.int .i64 0, .int .i64 0, .bool false, .bool false, .bool false] 82)) := hw.alloc hw.size _
  clear z1 HN HP HTs HIs
  generalize upE g = q at *
  go_wp2_with fail
  refine bodyPost_ret (v := .tuple #[.slice none 0 0, .int .i64 q]) (by simp [results, Tryz.results44, go_sem]) rfl ?_
  exact duAns_nil HE.out hw
  }
  rw [gUpS_ok z1]
  have Z1 := hide z1
  obtain ⟨hlw, hlk, hlv, hld⟩ := HP.out.sizes (upE_gt z1)
  have hnd := (gtE_ok (upE_gt z1)).2.2.1
  clear z1 hlw hlk
  obtain ⟨s, hs⟩ : ∃ s, s = gOf g.ws := ⟨_, rfl⟩
  rw [← hs]
  have HS := hide hs
  clear hs
  unfold gsv
  have bS := hide (heap_alloc_last w1 (.cells #[.int .i64 s.n, .int .i64 s.v, .bool s.co, .bool s.ab, .bool s.en] 82))
  have hb7 : Below w1.heap.size w1 (w1.alloc (.cells #[.int .i64 s.n, .int .i64 s.v, .bool s.co, .bool s.ab, .bool s.en] 82)) := below_new (Below.refl _ _) _
  replace b0 := hide (blk_below b0.out hb7)
  replace b1 := hide (blk_below b1.out hb7)
  replace hw := hw.trans (hb7.mono hw.size)
  clear hb7
  go_upto_region 4 with fail
  generalize (w1.alloc (.cells #[.int .i64 s.n, .int .i64 s.v, .bool s.co, .bool s.ab, .bool s.en] 82)) = W1 at *
  generalize w1.heap.size = S at *
  obtain ⟨s0, s1, s2, s3, s4⟩ := cl5 bS.out
  by_cases z2 : s.n = 0
  {
  have HE := hide (gDue_e (dueE_2 (cn := cn) (ts := ts) (ims := ims) (u := u) Z1.out (.inl (by rw [← HS.out]; exact z2))) (by decide))
  have d2 : (s.n == 0) = true := by simpa using z2
  clear z2 HN HP HTs HIs
  go_wp2_with fail
  refine bodyPost_ret (v := .tuple #[.slice none 0 0, .int .i64 12]) (by simp [results, Tryz.results44, go_sem]) rfl ?_
  exact duAns_nil HE.out hw
  }
  have d2 : (s.n == 0) = false := by simpa using z2
  have Z2 := hide z2
  clear z2
  cases z3 : s.en
  rotate_left
  {
  have HE := hide (gDue_e (dueE_2 (cn := cn) (ts := ts) (ims := ims) (u := u) Z1.out (.inr (by rw [← HS.out]; exact z3))) (by decide))
  rw [z3] at s4
  clear z3 HN HP HTs HIs
  go_wp2_with fail
  refine bodyPost_ret (v := .tuple #[.slice none 0 0, .int .i64 12]) (by simp [results, Tryz.results44, go_sem]) rfl ?_
  exact duAns_nil HE.out hw
  }
  rw [z3] at s4
  have Z3 := hide z3
  clear z3
  obtain ⟨x0, x1, x2, x3, x4, x5, x6, x7, x8⟩ := cl9 b0.out
  go_wp2_with fail
  refine (unhide HN _ hw).mono ?_
  rintro e w2 ⟨rfl, hb⟩
  replace b0 := hide (blk_below b0.out hb)
  replace b1 := hide (blk_below b1.out hb)
  replace bS := hide (blk_below bS.out hb)
  replace hw := hw.trans (hb.mono hw.size)
  clear hb HN d2 x0 x1 x2 x3 x4 x5 x6 x7 x8 s0 s1 s2 s3 s4
  cases z4 : inB u 0 ((g.vo.length : Int) - 1)
  {
  have HE := hide (gDue_e (dueE_3 (cn := cn) (ts := ts) (ims := ims) (u := u) Z1.out (by rw [← HS.out]; exact Z2.out) (by rw [← HS.out]; exact Z3.out) (.inl z4)) (by decide))
  clear z4 HP HTs HIs
  go_wp2_with fail
  refine bodyPost_ret (v := .tuple #[.slice none 0 0, .int .i64 5]) (by simp [results, Tryz.results44, go_sem]) rfl ?_
  exact duAns_nil HE.out hw
  }
  have c0 := blk_cell b1.out 0 _ rfl
  have s0 := blk_cell bS.out 0 _ rfl
  have Z4 := hide z4
  obtain ⟨un, hun⟩ : ∃ v : Nat, u = (v : Int) := ⟨u.toNat, by unfold inB at z4; simp at z4; omega⟩
  subst hun
  have hul : un < g.vo.length := by unfold inB at z4; simp at z4; omega
  clear z4
  have c4 := blk_cell b1.out 4 _ rfl
  have c3 := blk_cell b1.out 3 _ rfl
  by_cases z5 : cn = s.n
  rotate_left
  {
  have HE := hide (gDue_e (dueE_3 (cn := cn) (ts := ts) (ims := ims) (u := un) Z1.out (by rw [← HS.out]; exact Z2.out) (by rw [← HS.out]; exact Z3.out) (.inr (.inl (by rw [← HS.out]; exact z5)))) (by decide))
  have d5 : (cn != s.n) = true := by simpa using z5
  clear z5 HP HTs HIs
  go_wp2_with fail
  refine bodyPost_ret (v := .tuple #[.slice none 0 0, .int .i64 5]) (by simp [results, Tryz.results44, go_sem]) rfl ?_
  exact duAns_nil HE.out hw
  }
  have d5 : (cn != s.n) = false := by simpa using z5
  have Z5 := hide z5
  clear z5
  by_cases z6 : (m.ni : Int) ≤ un
  {
  have HE := hide (gDue_e (dueE_3 (cn := cn) (ts := ts) (ims := ims) (u := un) Z1.out (by rw [← HS.out]; exact Z2.out) (by rw [← HS.out]; exact Z3.out) (.inr (.inr (.inl (by rw [HIs.out.len]; exact z6))))) (by decide))
  clear HP HTs HIs
  go_wp2_with fail
  refine bodyPost_ret (v := .tuple #[.slice none 0 0, .int .i64 5]) (by simp [results, Tryz.results44, go_sem]) rfl ?_
  exact duAns_nil HE.out hw
  }
  have z6' : (un : Int) < (m.ni : Int) := by omega
  by_cases z7 : (m.nt : Int) ≤ un
  {
  have HE := hide (gDue_e (dueE_3 (cn := cn) (ts := ts) (ims := ims) (u := un) Z1.out (by rw [← HS.out]; exact Z2.out) (by rw [← HS.out]; exact Z3.out) (.inr (.inr (.inr (by rw [HTs.out.len]; exact z7))))) (by decide))
  clear HP HTs HIs
  go_wp2_with fail
  refine bodyPost_ret (v := .tuple #[.slice none 0 0, .int .i64 5]) (by simp [results, Tryz.results44, go_sem]) rfl ?_
  exact duAns_nil HE.out hw
  }
  have z7' : (un : Int) < (m.nt : Int) := by omega
  have HE0 := hide (dueE_0 (cn := cn) (ts := ts) (ims := ims) (u := un) Z1.out (by rw [← HS.out]; exact Z2.out) (by rw [← HS.out]; exact Z3.out) Z4.out (by rw [← HS.out]; exact Z5.out) (by rw [HIs.out.len]; exact z6') (by rw [HTs.out.len]; exact z7'))
  have hui : un < ims.length := by have := HIs.out.len; omega
  have hut : un < ts.length := by have := HTs.out.len; omega
  clear Z1 Z2 Z3 Z4 Z5
  have s1 := blk_cell bS.out 1 _ rfl
  have s2 := blk_cell bS.out 2 _ rfl
  have s3 := blk_cell bS.out 3 _ rfl
  have s4 := blk_cell bS.out 4 _ rfl
  have HD := hide (fun W => decided_any s W)
  unfold gsv at HD
  go_wp2_with fail
  refine (unhide HD _).mono ?_
  rintro e w3 ⟨rfl, hb⟩
  replace b0 := hide (blk_below b0.out hb)
  replace b1 := hide (blk_below b1.out hb)
  replace bS := hide (blk_below bS.out hb)
  replace hw := hw.trans (hb.mono hw.size)
  clear hb HD d5 c0 c3 c4 z6 z7 s0 s1 s2 s3 s4
  cases z8 : decG s
  rotate_left
  {
  have HE : Hid (gDue g cn ts ims un = (if g.di.getD un false = true then [] else [verd s un s.n], 0)) := by have e := gDue_d HE0.out (by rw [← HS.out]; exact z8); rw [← HS.out] at e; exact hide e
  obtain ⟨bd, od, had, hdc⟩ := bools_at (HP.out.di.below hw) un (by omega)
  have hud : (un : Int) < (k0.nd : Int) := by have := HP.out.di.len; omega
  have HV := hide (fun W => verdict_any s un s.n W)
  unfold gsv at HV
  clear z8 HP HTs HIs HE0 HS
  generalize g.di.getD un false = x at *
  go_upto_region 9 with fail
  rw [had] at b0
  refine wp_region_held_drew (S := fun W' => W'.cell? ⟨w.heap.size, 8, none⟩ = some (.slice (some ⟨bd, od, none⟩) k0.nd k0.cd) ∧ W'.cell? ⟨bd, od + un, none⟩ = some (.bool x) ∧ (W'.cell? ⟨S, 0, none⟩ = some (.int .i64 s.n) ∧ W'.cell? ⟨S, 1, none⟩ = some (.int .i64 s.v) ∧ W'.cell? ⟨S, 2, none⟩ = some (.bool s.co) ∧ W'.cell? ⟨S, 3, none⟩ = some (.bool s.ab) ∧ W'.cell? ⟨S, 4, none⟩ = some (.bool s.en)) ∧ Below w3.heap.size w3 W') (by kernel_rfl) (dueR b0.out rfl bS.out hdc (Below.refl _ _).drew) ?_
  intro hHeld
  refine Htake (i := 0) (v := ?_) (by rfl) (by kernel_rfl) (by exact fun _ _ _ h => h) (Or.inl ⟨by rfl, ?_⟩) (by assumption) ?_
  rotate_left
  {
  intro w hSw
  try dsimp only at hSw
  go_simp
  try with_reducible rfl
  }
  try simp only [sq]
  refine Htake (i := 1) (v := ?_) (by rfl) (by kernel_rfl) (by exact fun _ _ _ h => h) (Or.inl ⟨by rfl, ?_⟩) (by assumption) ?_
  rotate_left
  {
  intro w hSw
  try dsimp only at hSw
  go_simp
  try with_reducible rfl
  }
  try simp only [sq]
  refine Htake (i := 2) (v := ?_) (by rfl) (by kernel_rfl) (by exact fun _ _ _ h => h) (Or.inl ⟨by rfl, ?_⟩) (by assumption) ?_
  rotate_left
  {
  intro w hSw
  try dsimp only at hSw
  go_simp
  try with_reducible rfl
  }
  try simp only [sq]
  refine Htake (i := 3) (v := ?_) (by rfl) (by kernel_rfl) (by exact fun _ _ _ h => h) (Or.inl ⟨by rfl, ?_⟩) (by assumption) ?_
  rotate_left
  {
  intro w hSw
  try dsimp only at hSw
  go_simp
  try with_reducible rfl
  }
  try simp only [sq]
  refine Htake (i := 4) (v := ?_) (by rfl) (by kernel_rfl) (by exact fun _ _ _ h => h) (Or.inl ⟨by rfl, ?_⟩) (by assumption) ?_
  rotate_left
  {
  intro w hSw
  try dsimp only at hSw
  go_simp
  try with_reducible rfl
  }
  try simp only [sq]
  refine Htake (i := 5) (v := ?_) (by rfl) (by kernel_rfl) (by exact fun _ _ _ h => h) (Or.inl ⟨by rfl, ?_⟩) (by assumption) ?_
  rotate_left
  {
  intro w hSw
  try dsimp only at hSw
  go_simp
  try with_reducible rfl
  }
  try simp only [sq]
  refine Htake (i := 6) (v := ?_) (by rfl) (by kernel_rfl) (by exact fun _ _ _ h => h) (Or.inl ⟨by rfl, ?_⟩) (by assumption) ?_
  rotate_left
  {
  intro w hSw
  try dsimp only at hSw
  go_simp
  try with_reducible rfl
  }
  try simp only [sq]
  refine Htake (i := 7) (v := ?_) (by rfl) (by kernel_rfl) (by exact fun _ _ _ h => h) (Or.inl ⟨by rfl, ?_⟩) (by assumption) ?_
  rotate_left
  {
  intro w hSw
  try dsimp only at hSw
  go_simp
  try with_reducible rfl
  }
  try simp only [sq]
  refine Htake (i := 8) (v := ?_) (by rfl) (by kernel_rfl) (by exact fun _ _ _ h => h) (Or.inl ⟨by rfl, ?_⟩) (by assumption) ?_
  rotate_left
  {
  intro w hSw
  try dsimp only at hSw
  go_simp
  try with_reducible rfl
  }
  try simp only [sq]
  refine wpAnyH_ready (rs := [9]) (by kernel_rfl) (by simp) ?_
  refine AllReadyH.cons (by rfl) (fun K hK => ?_) AllReadyH.nil
  go_simp
  refine (unhide HV _).mono ?_
  rintro e w4 ⟨rfl, hb4⟩
  have hk4 := ((Below.refl w3.heap.size w3).drew).trans (hb4.mono ((Below.refl w3.heap.size w3).drew).size)
  go_wp2_with fail
  refine hK.out _ _ (dueR b0.out rfl bS.out hdc hk4) (fun hHeld => ?_)
  clear hK K
  try simp only [sq]
  refine wpAnyH_ready (rs := [10]) (by kernel_rfl) (by simp) ?_
  refine AllReadyH.cons (by rfl) (fun K hK => ?_) AllReadyH.nil
  go_simp
  refine (unless_any x (verd s un s.n) rfl _).mono ?_
  rintro e w5 ⟨⟨al, nl, cl, rfl, hml, hnl, hcl, hfl⟩, hb5⟩
  have hk5 := hk4.trans (hb5.mono hk4.size)
  go_wp2_with fail
  refine hK.out _ _ (dueR b0.out rfl bS.out hdc hk5) (fun hHeld => ?_)
  clear hK K
  try simp only [sq]
  refine Htake (i := 11) (v := ?_) (by rfl) (by kernel_rfl) (by exact fun _ _ _ h => h) (Or.inl ⟨by rfl, ?_⟩) (by assumption) ?_
  rotate_left
  {
  intro w hSw
  try dsimp only at hSw
  go_simp
  try with_reducible rfl
  }
  try simp only [sq]
  refine Htake (i := 12) (v := ?_) (by rfl) (by kernel_rfl) (by exact fun _ _ _ h => h) (Or.inl ⟨by rfl, ?_⟩) (by assumption) ?_
  rotate_left
  {
  intro w hSw
  try dsimp only at hSw
  go_simp
  try with_reducible rfl
  }
  try simp only [sq]
  refine wpAnyH_done (by kernel_rfl) ?_ _
  go_wp2_with fail
  refine bodyPost_ret (v := .tuple #[.slice al nl cl, .int .i64 0]) (by simp [results, Tryz.results44, go_sem]) rfl ?_
  rw [HE.out]
  exact ⟨⟨al, nl, cl, rfl, hml.msw, hnl, hcl, hfl.lower (Nat.le_trans hw.size hk4.size)⟩, hw.trans (hk5.mono hw.size)⟩
  }
  have Z8 : Hid (decG (gOf g.ws) = false) := by show _ = _; rw [← HS.out]; exact z8
  clear z8 HS bS
  obtain ⟨bv, ov, hav, hvc⟩ := bools_at (HP.out.vo.below hw) un hul
  have huv : (un : Int) < (k0.nv : Int) := by have := HP.out.vo.len; omega
  have x7 := blk_cell b0.out 7 _ rfl
  rw [hav] at x7
  clear hav
  cases z9 : g.vo.getD un false
  rotate_left
  {
  have HE := hide (gDue_v HE0.out Z8.out z9)
  rw [z9] at hvc
  clear z9 HP HTs HIs HE0 Z8
  go_wp2_with fail
  refine bodyPost_ret (v := .tuple #[.slice none 0 0, .int .i64 0]) (by simp [results, Tryz.results44, go_sem]) rfl ?_
  exact duAns_nil HE.out hw
  }
  rw [z9] at hvc
  have Z9 := hide z9
  clear z9
  obtain ⟨bi, oi, a5, c5, hai, hcell, -, -, -⟩ := lists_at (HIs.out.at_.below hw) un hui
  have c4 := blk_cell b1.out 4 _ rfl
  rw [hai] at c4
  clear hai
  have hgd : ims.getD un [] = ims[un] := by simp [hui]
  by_cases za : 40 < ims[un].length
  {
  have HE := hide (gDue_m HE0.out Z8.out Z9.out (by rw [Int.toNat_natCast, hgd]; exact za))
  have zaI : (40 : Int) < (ims[un].length : Int) := by omega
  clear HP HTs HIs HE0 Z8 Z9 za hgd
  generalize ims[un].length = L5 at *
  go_wp2_with fail
  refine bodyPost_ret (v := .tuple #[.slice none 0 0, .int .i64 2]) (by simp [results, Tryz.results44, go_sem]) rfl ?_
  exact duAns_nil HE.out hw
  }
  have HE := hide (gDue_p HE0.out Z8.out Z9.out (by rw [Int.toNat_natCast, hgd]; exact za))
  have zaI : ¬ (40 : Int) < (ims[un].length : Int) := by omega
  have HL := hide (delivery_any cn cv cu m ts ims un w3 (HTs.out.below hw) (HIs.out.below hw) hui hut (by rw [hgd]; omega))
  unfold cpv at HL
  rw [Int.toNat_natCast] at HE
  clear HP HTs HIs HE0 Z8 Z9 za hgd
  generalize ims[un].length = L5 at *
  have c0 := blk_cell b1.out 0 _ rfl
  have c1 := blk_cell b1.out 1 _ rfl
  have c2 := blk_cell b1.out 2 _ rfl
  have c3 := blk_cell b1.out 3 _ rfl
  go_upto_region 14 with fail
  clear c4
  have c4 := blk_cell b1.out 4 _ rfl
  go_wp2_with fail
  refine (unhide HL).mono ?_
  rintro e w4 ⟨⟨al, nl, cl, rfl, hml, hnl, hcl, hfl⟩, hb4⟩
  go_wp2_with fail
  refine bodyPost_ret (v := .tuple #[.slice al nl cl, .int .i64 0]) (by simp [results, Tryz.results44, go_sem]) rfl ?_
  rw [HE.out]
  exact ⟨⟨al, nl, cl, rfl, hml, hnl, hcl, hfl.lower hw.size⟩, hw.trans (hb4.mono hw.size)⟩

end Go.Proofs.YtgngpmgjoifepaaGreatDoor

namespace Go.Proofs.YtgngpmgjoifepaaGreatDoor
open Go.RowKit

theorem itoa_dig (n : Nat) (h : n < 10) : Lib.itoa (n : Int) = [UInt8.ofNat (48 + n)] := by
  unfold Lib.itoa
  rw [if_neg (by omega), Int.toNat_natCast, Lib.decDigits_one h]

theorem w7 : wr [7, 0] = [55, 32, 48] := by
  have e7 := itoa_dig 7 (by decide)
  have e0 := itoa_dig 0 (by decide)
  simp only [wr, List.map_cons, List.map_nil]
  rw [show (7 : Int) = ((7 : Nat) : Int) from rfl, show (0 : Int) = ((0 : Nat) : Int) from rfl, e7, e0]
  rfl
theorem w1of (n : Nat) (h : n < 10) : wr [(n : Int)] = [UInt8.ofNat (48 + n)] := by
  simp only [wr, List.map_cons, List.map_nil, Lib.join_one]
  exact itoa_dig n h
theorem w11 : wr [1, 1] = [49, 32, 49] := by
  have e1 := itoa_dig 1 (by decide)
  simp only [wr, List.map_cons, List.map_nil]
  rw [show (1 : Int) = ((1 : Nat) : Int) from rfl, e1]
  rfl
end Go.Proofs.YtgngpmgjoifepaaGreatDoor

namespace Go.Proofs.YtgngpmgjoifepaaGreatDoor
open Go.RowKit

def tbk : List ByteArray := [{ data := #[105, 109, 97, 103, 101, 32, 55] }, { data := #[105, 109, 97, 103, 101, 32, 56, 32, 56] }, { data := #[114, 101, 108, 101, 97, 115, 101, 32, 49, 32, 117, 110, 116, 105, 108, 32, 53, 59, 32, 48, 32, 50, 32, 50] }, { data := #[114, 111, 111, 116, 32, 50, 32, 49, 32, 111, 102, 32, 52] }]
def tsl : List S2 := [(3, 3), (3, 4), (4, 4), (4, 3)]
def tt0 : Tr := ⟨⟨1, [3], 1⟩, 0⟩
def to1 : Of := ⟨[], [], 1, 5, [(0, 2, 2)], [3], [[8, 8]]⟩

theorem w88 : wr [8, 8] = [56, 32, 56] := by
  have e := itoa_dig 8 (by decide)
  simp only [wr, List.map_cons, List.map_nil]
  rw [show (8 : Int) = ((8 : Nat) : Int) from rfl, e]
  rfl
theorem w21 : wr [2, 1] = [50, 32, 49] := by
  have e2 := itoa_dig 2 (by decide)
  have e1 := itoa_dig 1 (by decide)
  simp only [wr, List.map_cons, List.map_nil]
  rw [show (2 : Int) = ((2 : Nat) : Int) from rfl, show (1 : Int) = ((1 : Nat) : Int) from rfl, e2, e1]
  rfl
theorem w022 : wr [0, 2, 2] = [48, 32, 50, 32, 50] := by
  have e0 := itoa_dig 0 (by decide)
  have e2 := itoa_dig 2 (by decide)
  simp only [wr, List.map_cons, List.map_nil]
  rw [show (0 : Int) = ((0 : Nat) : Int) from rfl, show (2 : Int) = ((2 : Nat) : Int) from rfl, e0, e2]
  rfl

theorem f_img : bs (imgT [8, 8]) = { data := #[105, 109, 97, 103, 101, 32, 56, 32, 56] } := by
  unfold imgT
  rw [w88]
  rfl
theorem f_rel : bs (relT 1 5 [(0, 2, 2)]) = { data := #[114, 101, 108, 101, 97, 115, 101, 32, 49, 32, 117, 110, 116, 105, 108, 32, 53, 59, 32, 48, 32, 50, 32, 50] } := by
  have e1 := w1of 1 (by decide)
  have e5 := w1of 5 (by decide)
  unfold relT headT
  rw [List.map_cons, List.map_nil]
  unfold tgtT
  rw [w022, show (1 : Int) = ((1 : Nat) : Int) from rfl, show (5 : Int) = ((5 : Nat) : Int) from rfl, e1, e5]
  rfl
theorem f_book : bookE tbk = 0 := by decide +kernel
theorem f_in : inE tbk [8, 8] = 0 ∧ inN tbk [8, 8] = 2 := by
  have h : imgE [8, 8] = 0 := by decide
  refine ⟨by unfold inE; rw [if_pos h, f_book], ?_⟩
  unfold inN nameE
  rw [if_pos h, if_pos f_book, f_img]
  decide +kernel
theorem f_meant : meantB tbk [(0, 2, 2)] [[8, 8]] = true := by
  unfold meantB meant1
  rw [f_in.1, f_in.2]
  decide
theorem f_cr (r : Rt) (sigs : List Int) : crE tbk tsl r 1 5 [(0, 2, 2)] sigs = csE tsl r sigs 3 := by
  rw [crE_3 (by decide) f_book, f_rel]
  rfl
theorem isStrs_blk {W : World} {b : Nat} {ss : List ByteArray} {t : TypeId} (h : W.heap[b]? = some (.cells (ss.map Value.string).toArray t (0, 0))) : IsStrs W (some ⟨b, 0, none⟩) ss :=
  .inr ⟨b, 0, rfl, fun i hi => blk_cell h (0 + i) _ (by simp [hi])⟩
theorem isInts_blk {W : World} {b : Nat} {xs : List Int} {t : TypeId} (h : W.heap[b]? = some (.cells (xs.map (Value.int .i64)).toArray t (0, 0))) : IsInts W (some ⟨b, 0, none⟩) xs :=
  .inr ⟨b, 0, rfl, fun i hi => blk_cell h (0 + i) _ (by simp [hi])⟩
theorem isSigs_blk {W : World} {b : Nat} {t : TypeId} (h : W.heap[b]? = some (.cells #[.int .i64 3, .int .i64 3, .int .i64 3, .int .i64 4, .int .i64 4, .int .i64 4, .int .i64 4, .int .i64 3] t (0, 0))) : IsSigs W (some ⟨b, 0, none⟩) tsl := by
  refine .inr ⟨b, 0, rfl, fun i s hi => ?_⟩
  have hl : i < 4 := (List.getElem?_eq_some_iff.1 hi).1
  have : i = 0 ∨ i = 1 ∨ i = 2 ∨ i = 3 := by omega
  rcases this with rfl | rfl | rfl | rfl
  { cases hi; exact ⟨blk_cell h 0 _ rfl, blk_cell h 1 _ rfl⟩ }
  { cases hi; exact ⟨blk_cell h 2 _ rfl, blk_cell h 3 _ rfl⟩ }
  { cases hi; exact ⟨blk_cell h 4 _ rfl, blk_cell h 5 _ rfl⟩ }
  { cases hi; exact ⟨blk_cell h 6 _ rfl, blk_cell h 7 _ rfl⟩ }
theorem isTgt_blk {W : World} {b : Nat} {x : T3} {t : TypeId} (h : W.heap[b]? = some (.cells #[.int .i64 x.1, .int .i64 x.2.1, .int .i64 x.2.2] t (0, 0))) : IsTgts W (some ⟨b, 0, none⟩) [x] := by
  refine .inr ⟨b, 0, rfl, fun i s hi => ?_⟩
  cases i with
  | zero => cases hi; exact ⟨blk_cell h 0 _ rfl, blk_cell h 1 _ rfl, blk_cell h 2 _ rfl⟩
  | succ i => simp at hi
theorem isList_blk {W : World} {b : Nat} {a : Option Addr} {n c : Nat} {xs : List Int} {t : TypeId} (h : W.heap[b]? = some (.cells #[.slice a n c] t (0, 0))) (hx : BI W a n xs) (hc : n ≤ c) (hm : c ≤ maxLen) : IsLists W (some ⟨b, 0, none⟩) [xs] := by
  refine .inr ⟨b, 0, rfl, fun i s hi => ?_⟩
  cases i with
  | zero => cases hi; exact ⟨a, c, by rw [hx.len]; exact blk_cell h 0 _ rfl, hx.at_, by rw [hx.len]; exact hc, hm⟩
  | succ i => simp at hi
theorem last_at {W : World} {o : Obj} {b : Nat} (hb : b = W.heap.size) : (W.alloc o).heap[b]? = some o := by rw [hb]; exact heap_alloc_last _ _
theorem ml0 : 0 ≤ maxLen := by decide
theorem ml1 : 1 ≤ maxLen := by decide

def Smp (w : World) (ab a1 a2 : Option Addr) (m : OA) : Prop := BB w ab 4 4 tbk ∧ BG w a1 4 tsl ∧ BI w a2 1 [3] ∧ BO w m to1
theorem Smp.below {w w' : World} {ab a1 a2 : Option Addr} {m : OA} (h : Smp w ab a1 a2 m) (hb : Below w.heap.size w w') : Smp w' ab a1 a2 m := ⟨h.1.below hb, h.2.1.below hb, h.2.2.1.below hb, h.2.2.2.below hb⟩

set_option maxHeartbeats 3200000 in
set_option maxRecDepth 100000 in
theorem lawSimple_any (w : World) : Calls Tryz.prog 64 #[] w fun e w' => ∃ ab a1 a2 m, e = .returned (.tuple #[.agg #[.slice ab 4 4], .slice a1 4 4, .agg #[.int .i64 1, .slice a2 1 1, .int .i64 1, .int .i64 0], .agg #[.slice m.a1 m.n1 m.c1, .slice m.a2 m.n2 m.c2, .int .i64 1, .int .i64 5, .slice m.a3 m.n3 m.c3, .slice m.a4 m.n4 m.c4, .slice m.a5 m.n5 m.c5]]) ∧ Smp w' ab a1 a2 m ∧ Below w.heap.size w w' := by
  go_enter Tryz.func64, Tryz.ntmps64
  go_upto_region 5 with fail
  go_region
  all_goals
    go_wp2_with fail
    refine bodyPost_ret (v := .tuple #[.agg #[.slice (some ⟨w.heap.size + 3, 0, none⟩) 4 4], .slice (some ⟨w.heap.size + 4, 0, none⟩) 4 4, .agg #[.int .i64 1, .slice (some ⟨w.heap.size + 5, 0, none⟩) 1 1, .int .i64 1, .int .i64 0], .agg #[.slice none 0 0, .slice none 0 0, .int .i64 1, .int .i64 5, .slice (some ⟨w.heap.size + 6, 0, none⟩) 1 1, .slice (some ⟨w.heap.size + 7, 0, none⟩) 1 1, .slice (some ⟨w.heap.size + 9, 0, none⟩) 1 1]]) (by simp [results, Tryz.results64, go_sem]) rfl ?_
    refine ⟨some ⟨w.heap.size + 3, 0, none⟩, some ⟨w.heap.size + 4, 0, none⟩, some ⟨w.heap.size + 5, 0, none⟩, ⟨none, 0, 0, none, 0, 0, some ⟨w.heap.size + 6, 0, none⟩, 1, 1, some ⟨w.heap.size + 7, 0, none⟩, 1, 1, some ⟨w.heap.size + 9, 0, none⟩, 1, 1⟩, rfl, ⟨⟨isStrs_blk (ss := tbk) (t := 9) ?_, rfl, by decide, by decide, by decide +kernel⟩, ⟨isSigs_blk (t := 188) ?_, rfl, by decide⟩, ⟨isInts_blk (xs := [3]) (t := 3) ?_, rfl, by decide⟩, ⟨⟨.inl rfl, rfl, ml0⟩, ⟨.inl rfl, rfl, ml0⟩, ⟨isTgt_blk (x := (0, 2, 2)) (t := 104) ?_, rfl, ml1⟩, ⟨isInts_blk (xs := [3]) (t := 3) ?_, rfl, ml1⟩, ⟨isList_blk (a := some ⟨w.heap.size + 8, 0, none⟩) (n := 2) (c := 2) (t := 25) ?_ ⟨isInts_blk (xs := [8, 8]) (t := 3) ?_, rfl, by decide⟩ (by decide) (by decide), rfl, ml1⟩⟩⟩, ?_⟩
    all_goals first
      | ((repeat (first | (refine last_at ?_; (try simp only [World.size_alloc]); (first | done | omega)) | refine blk_alloc ?_ _)); done)
      | ((repeat (first | exact Below.refl _ _ | refine Below.drew ?_ | refine below_new ?_ _)); done)

end Go.Proofs.YtgngpmgjoifepaaGreatDoor

namespace Go.Proofs.YtgngpmgjoifepaaGreatDoor
open Go.RowKit

def fr1 : Rt := ⟨1, [3], 1⟩
def fg0 : Gt := gNw fr1 1
def gw1 : List Int := (appS gw0 (-1) [1, 1, 1] []).1
def gw2 : List Int := (appS gw1 (-1) [2, 1] [[1, 1, 1]]).1
def gw3 : List Int := (appS gw2 (-1) [4, 1] [[1, 1, 1], [2, 1]]).1
def fg1 : Gt := ⟨gw1, -1, true, ⟨fr1, 1⟩, [false], [false]⟩
def fg2 : Gt := ⟨gw2, -1, true, ⟨fr1, 1⟩, [true], [false]⟩
def fg3 : Gt := ⟨gw3, -1, true, ⟨fr1, 1⟩, [true], [true]⟩
def fv1 : Ms := ⟨3, 0, 1, 0, 0, [], true⟩
def fd1 : Ms := ⟨6, 0, 1, 0, 0, [], false⟩

theorem gs_ext {s t : Gs} (h : s.n = t.n ∧ s.v = t.v ∧ s.co = t.co ∧ s.ab = t.ab ∧ s.en = t.en) : s = t := by
  cases s; cases t; simp_all
theorem fs0 : gOf fg0.ws = ⟨0, 0, false, false, false⟩ := gs_ext (by decide +kernel)
theorem fs1 : gOf gw1 = ⟨1, 1, false, false, false⟩ := gs_ext (by decide +kernel)
theorem fs2 : gOf gw2 = ⟨1, 1, true, false, false⟩ := gs_ext (by decide +kernel)
theorem fs3 : gOf gw3 = ⟨1, 1, true, false, true⟩ := gs_ext (by decide +kernel)
theorem fe0 : gtE fg0 = 0 := by decide +kernel
theorem fe1 : gtE fg1 = 0 := by decide +kernel
theorem fe2 : gtE fg2 = 0 := by decide +kernel
theorem fe3 : gtE fg3 = 0 := by decide +kernel
theorem ap1 : appS gw0 (-1) [1, 1, 1] [] = (gw1, -1, 0) := by decide +kernel
theorem ap2 : appS gw1 (-1) [2, 1] [[1, 1, 1]] = (gw2, -1, 0) := by decide +kernel
theorem ap3 : appS gw2 (-1) [4, 1] [[1, 1, 1], [2, 1]] = (gw3, -1, 0) := by decide +kernel

theorem fg_new : gNew fr1 1 = (fg0, 0) := gNew_0 (by decide) fe0
theorem f_0 : takeE tbk tsl tt0 to1 0 1 = 0 := by
  rw [takeE_4 (by decide) (by decide) (by rw [show crE tbk tsl (lastR tt0.r to1.roots) to1.v to1.u to1.ts to1.sigs = csE tsl (lastR tt0.r to1.roots) to1.sigs 3 from f_cr _ _]; decide +kernel)]
  exact restE_0 (by decide) (by decide) rfl rfl f_meant
theorem fg_beg : gBeg tbk tsl fg0 to1 0 = (fg1, 1, 0) := by
  rw [gBeg_0 (upE_0 fe0 rfl) (.inl (by rw [fs0])) (by rw [fs0]; decide) f_0, fs0]
  show begD 1 _ (noteG fg0 ⟨0, 0, false, false, false⟩ [1, 1, 1]) = _
  have e : noteG fg0 ⟨0, 0, false, false, false⟩ [1, 1, 1] = (⟨gw1, -1, true, tt0, [false], [false]⟩, true) := by
    unfold noteG
    rw [show appS fg0.ws fg0.fu [1, 1, 1] (kepG ⟨0, 0, false, false, false⟩) = (gw1, -1, 0) from ap1]
    rfl
  rw [e]
  rfl
theorem fg_due : ∃ l, gDue fg1 1 [(0, 2, 2)] [[8, 8]] 0 = (l, 0) ∧ l.length = 2 := by
  have h : dueE fg1 1 [(0, 2, 2)] [[8, 8]] 0 = 0 := dueE_0 (upE_0 fe1 rfl) (by rw [show fg1.ws = gw1 from rfl, fs1]; decide) (by rw [show fg1.ws = gw1 from rfl, fs1]) (by decide) (by rw [show fg1.ws = gw1 from rfl, fs1]) (by decide) (by decide)
  refine ⟨_, gDue_p h (by rw [show fg1.ws = gw1 from rfl, fs1]; rfl) rfl (by decide), by decide⟩
theorem fg_vote : gHear fg1 fv1 = (fg2, [], 0) := by
  rw [gHear_u (ghE_0 fe1 (by decide) (by decide)) rfl, show gOf fg1.ws = ⟨1, 1, false, false, false⟩ from fs1]
  have e : ghK fg1 ⟨1, 1, false, false, false⟩ fv1 = (fg2, []) := by
    rw [ghK_3y rfl (by decide)]
    unfold ctgV
    rw [if_pos (by decide)]
    unfold noteG
    rw [show appS (setVo fg1 fv1.u).ws (setVo fg1 fv1.u).fu [2, (⟨1, 1, false, false, false⟩ : Gs).n] (kepG ⟨1, 1, false, false, false⟩) = (gw2, -1, 0) from ap2]
    rfl
  rw [e]
theorem fg_done : gHear fg2 fd1 = (fg3, [], 0) := by
  rw [gHear_u (ghE_0 fe2 (by decide) (by decide)) rfl, show gOf fg2.ws = ⟨1, 1, true, false, false⟩ from fs2]
  have e : ghK fg2 ⟨1, 1, true, false, false⟩ fd1 = (fg3, []) := by
    rw [ghK_6y rfl (by decide)]
    unfold ctgD
    rw [if_pos (by decide)]
    unfold noteG
    rw [show appS (setDi fg2 fd1.u).ws (setDi fg2 fd1.u).fu [4, (⟨1, 1, true, false, false⟩ : Gs).n] (kepG ⟨1, 1, true, false, false⟩) = (gw3, -1, 0) from ap3]
    rfl
  rw [e]
theorem fg_read2 : gReadS fg2 = (⟨1, 1, true, false, false⟩, 0) := by rw [gReadS_0 fe2]; rw [show gOf fg2.ws = _ from fs2]
theorem fg_read3 : gReadS fg3 = (⟨1, 1, true, false, true⟩, 0) := by rw [gReadS_0 fe3]; rw [show gOf fg3.ws = _ from fs3]

end Go.Proofs.YtgngpmgjoifepaaGreatDoor
