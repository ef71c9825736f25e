/- The steps of a unit: unit.clearing, filling, sealing, and what they make. -/
import Derived.Test.YthmekfcgdfckaaaGreatDoorWn10
set_option maxRecDepth 1000000
set_option maxHeartbeats 0
namespace Go.Proofs.YthmekfcgdfckaaaGreatDoor
section
open Go.RowKit
attribute [local go_sem ↓] Go.wp_at_zero Go.wp_at_succ
theorem zpo (b1:Nat) (s:Int) (a:Option Addr) (n c:Nat) (ws:List Int) (fuel:Int) (w:World) (hc1:w.cell? ⟨b1,0,none⟩=some (.int .i64 s)) (h:BW w a n c ws):
    Calls Tryz.prog 322 #[.agg #[.slice a n c,.int .i64 fuel],.pointer (some ⟨b1,0,none⟩)] w (zbf w (clrS ws fuel s)):=by
  have HE:=hide (fun W (hW:Below w.heap.size w W)=>clear_any a n c ws fuel s W (h.below hW).at_ h.len h.max h.cap);have hw:Below w.heap.size w ((w.alloc (.cells #[.slice a n c,.int .i64 fuel] 28)).alloc (.cells #[.slice none 0 0,.int .i64 0] 28)):=
    bA2
  have b1: ((w.alloc (.cells #[.slice a n c,.int .i64 fuel] 28)).alloc (.cells #[.slice none 0 0,.int .i64 0] 28)).heap[w.heap.size+1]?=some (.cells #[.slice none 0 0,.int .i64 0] 28 (0,0)):=
    zau _ _ _
  have k1:=(hw.cell (zah hc1)).trans hc1;have B1:=hide b1;clear b1 h;go_enter Tryz.func322,Tryz.ntmps322;go_wp2_with fail;generalize (w.alloc (.cells #[.slice a n c,.int .i64 fuel] 28)).alloc (.cells #[.slice none 0 0,.int .i64 0] 28)=W at *;refine(zae HE _ hw).mono ?_;rintro e w1 ⟨⟨a1,n1,c1,rfl,hi1,hn1,hc1,hf1⟩,hb1⟩;have q0:=zaa (zab B1.out hb1) 0 _ rfl;have q1:=zaa (zab B1.out hb1) 1 _ rfl;have q2:=zad (zab B1.out hb1) 0;have q3:=zad (zab B1.out hb1) 1;have ltB:=zak B1.out;have hw1:=bT hw hb1;have HN1:=hide hn1;clear hn1;generalize clrS ws fuel s=R at *;go_wp2_with fail;refine bodyPost_ret (v:=.tuple #[.agg #[.slice a1 n1 c1,.int .i64 R.2.1],.int .i64 R.2.2]) (by simp [results,Tryz.results322,go_sem,q0,q1]) rfl ?_;exact⟨⟨a1,n1,c1,rfl,(hi1.other hf1 ltB 0 _).other hf1 ltB 1 _,HN1.out,hc1,zal.mono hf1 hw.size⟩,(hw1.setCell (by show w.heap.size≤w.heap.size+1;omega) _).setCell (by show w.heap.size≤w.heap.size+1;omega) _⟩
theorem zpw (b1 b2 b3:Nat) (s p:Int) (a2:Option Addr) (n2 c2:Nat) (words:List Int) (a:Option Addr) (n c:Nat) (ws:List Int) (fuel:Int) (w:World) (hc1:w.cell? ⟨b1,0,none⟩=some (.int .i64 s)) (hc2:w.cell? ⟨b2,0,none⟩=some (.int .i64 p)) (hc3:w.cell? ⟨b3,0,none⟩=some (.slice a2 n2 c2)) (h2:BI w a2 n2 words) (h:BW w a n c ws):
    Calls Tryz.prog 253 #[.agg #[.slice a n c,.int .i64 fuel],.pointer (some ⟨b1,0,none⟩),.pointer (some ⟨b2,0,none⟩),.pointer (some ⟨b3,0,none⟩)] w (zbf w (fillS ws fuel s p words)):=by
  have HE:=hide (fun W (hW:Below w.heap.size w W)=>fill_any a n c ws fuel s p a2 n2 c2 words W (h.below hW).at_ h.len h.max (h2.below hW).at_ h2.len h2.max);have hw:Below w.heap.size w ((w.alloc (.cells #[.slice a n c,.int .i64 fuel] 28)).alloc (.cells #[.slice none 0 0,.int .i64 0] 28)):=
    bA2
  have b1: ((w.alloc (.cells #[.slice a n c,.int .i64 fuel] 28)).alloc (.cells #[.slice none 0 0,.int .i64 0] 28)).heap[w.heap.size+1]?=some (.cells #[.slice none 0 0,.int .i64 0] 28 (0,0)):=
    zau _ _ _
  have k1:=(hw.cell (zah hc1)).trans hc1;have k2:=(hw.cell (zah hc2)).trans hc2;have k3:=(hw.cell (zah hc3)).trans hc3;have B1:=hide b1;clear b1 h h2;go_enter Tryz.func253,Tryz.ntmps253;go_wp2_with fail;generalize (w.alloc (.cells #[.slice a n c,.int .i64 fuel] 28)).alloc (.cells #[.slice none 0 0,.int .i64 0] 28)=W at *;refine(zae HE _ hw).mono ?_;rintro e w1 ⟨⟨a1,n1,c1,rfl,hi1,hn1,hc1,hf1⟩,hb1⟩;have q0:=zaa (zab B1.out hb1) 0 _ rfl;have q1:=zaa (zab B1.out hb1) 1 _ rfl;have q2:=zad (zab B1.out hb1) 0;have q3:=zad (zab B1.out hb1) 1;have ltB:=zak B1.out;have hw1:=bT hw hb1;have HN1:=hide hn1;clear hn1;generalize fillS ws fuel s p words=R at *;go_wp2_with fail;refine bodyPost_ret (v:=.tuple #[.agg #[.slice a1 n1 c1,.int .i64 R.2.1],.int .i64 R.2.2]) (by simp [results,Tryz.results253,go_sem,q0,q1]) rfl ?_;exact⟨⟨a1,n1,c1,rfl,(hi1.other hf1 ltB 0 _).other hf1 ltB 1 _,HN1.out,hc1,zal.mono hf1 hw.size⟩,(hw1.setCell (by show w.heap.size≤w.heap.size+1;omega) _).setCell (by show w.heap.size≤w.heap.size+1;omega) _⟩
theorem zpv (b1 b2 b3:Nat) (s long name:Int) (a:Option Addr) (n c:Nat) (ws:List Int) (fuel:Int) (w:World) (hc1:w.cell? ⟨b1,0,none⟩=some (.int .i64 s)) (hc2:w.cell? ⟨b2,0,none⟩=some (.int .i64 long)) (hc3:w.cell? ⟨b3,0,none⟩=some (.int .i64 name)) (h:BW w a n c ws):
    Calls Tryz.prog 255 #[.agg #[.slice a n c,.int .i64 fuel],.pointer (some ⟨b1,0,none⟩),.pointer (some ⟨b2,0,none⟩),.pointer (some ⟨b3,0,none⟩)] w (zbf w (sealS ws fuel s long name)):=by
  have HE:=hide (fun W (hW:Below w.heap.size w W)=>seal_any a n c ws fuel s long name W (h.below hW).at_ h.len h.max);have hw:Below w.heap.size w ((w.alloc (.cells #[.slice a n c,.int .i64 fuel] 28)).alloc (.cells #[.slice none 0 0,.int .i64 0] 28)):=
    bA2
  have b1: ((w.alloc (.cells #[.slice a n c,.int .i64 fuel] 28)).alloc (.cells #[.slice none 0 0,.int .i64 0] 28)).heap[w.heap.size+1]?=some (.cells #[.slice none 0 0,.int .i64 0] 28 (0,0)):=
    zau _ _ _
  have k1:=(hw.cell (zah hc1)).trans hc1;have k2:=(hw.cell (zah hc2)).trans hc2;have k3:=(hw.cell (zah hc3)).trans hc3;have B1:=hide b1;clear b1 h;go_enter Tryz.func255,Tryz.ntmps255;go_wp2_with fail;generalize (w.alloc (.cells #[.slice a n c,.int .i64 fuel] 28)).alloc (.cells #[.slice none 0 0,.int .i64 0] 28)=W at *;refine(zae HE _ hw).mono ?_;rintro e w1 ⟨⟨a1,n1,c1,rfl,hi1,hn1,hc1,hf1⟩,hb1⟩;have q0:=zaa (zab B1.out hb1) 0 _ rfl;have q1:=zaa (zab B1.out hb1) 1 _ rfl;have q2:=zad (zab B1.out hb1) 0;have q3:=zad (zab B1.out hb1) 1;have ltB:=zak B1.out;have hw1:=bT hw hb1;have HN1:=hide hn1;clear hn1;generalize sealS ws fuel s long name=R at *;go_wp2_with fail;refine bodyPost_ret (v:=.tuple #[.agg #[.slice a1 n1 c1,.int .i64 R.2.1],.int .i64 R.2.2]) (by simp [results,Tryz.results255,go_sem,q0,q1]) rfl ?_;exact⟨⟨a1,n1,c1,rfl,(hi1.other hf1 ltB 0 _).other hf1 ltB 1 _,HN1.out,hc1,zal.mono hf1 hw.size⟩,(hw1.setCell (by show w.heap.size≤w.heap.size+1;omega) _).setCell (by show w.heap.size≤w.heap.size+1;omega) _⟩
theorem zo2 (b1 b2:Nat) (ar:Option Addr) (nr cr:Nat) (r:List Int) (ak:Option Addr) (nk ck:Nat) (keep:List (List Int)) (a:Option Addr) (n c:Nat) (ws:List Int) (fuel:Int) (w:World) (hc1:w.cell? ⟨b1,0,none⟩=some (.slice ar nr cr)) (hc2:w.cell? ⟨b2,0,none⟩=some (.slice ak nk ck)) (hr:BI w ar nr r) (hk:zck w ak keep) (hnk:keep.length=nk) (hmk:nk≤maxLen) (h:BW w a n c ws):
    Calls Tryz.prog 257 #[.agg #[.slice a n c,.int .i64 fuel],.pointer (some ⟨b1,0,none⟩),.pointer (some ⟨b2,0,none⟩)] w (zbf w (appS ws fuel r keep)):=by
  have HE:=hide (fun W (hW:Below w.heap.size w W)=>zjp a n c ws fuel ar nr cr r ak nk ck keep W (h.below hW).at_ h.len h.cap h.max (hr.below hW).at_ hr.len hr.max (hk.below hW) hnk hmk);have hw:Below w.heap.size w ((w.alloc (.cells #[.slice a n c,.int .i64 fuel] 28)).alloc (.cells #[.slice none 0 0,.int .i64 0] 28)):=
    bA2
  have b1: ((w.alloc (.cells #[.slice a n c,.int .i64 fuel] 28)).alloc (.cells #[.slice none 0 0,.int .i64 0] 28)).heap[w.heap.size+1]?=some (.cells #[.slice none 0 0,.int .i64 0] 28 (0,0)):=
    zau _ _ _
  have k1:=(hw.cell (zah hc1)).trans hc1;have k2:=(hw.cell (zah hc2)).trans hc2;have B1:=hide b1;clear b1 h hr hnk;go_enter Tryz.func257,Tryz.ntmps257;go_wp2_with fail;generalize (w.alloc (.cells #[.slice a n c,.int .i64 fuel] 28)).alloc (.cells #[.slice none 0 0,.int .i64 0] 28)=W at *;refine(zae HE _ hw).mono ?_;rintro e w1 ⟨⟨a1,n1,c1,rfl,hi1,hn1,hc1,hf1⟩,hb1⟩;have q0:=zaa (zab B1.out hb1) 0 _ rfl;have q1:=zaa (zab B1.out hb1) 1 _ rfl;have q2:=zad (zab B1.out hb1) 0;have q3:=zad (zab B1.out hb1) 1;have ltB:=zak B1.out;have hw1:=bT hw hb1;have HN1:=hide hn1;clear hn1;generalize appS ws fuel r keep=R at *;go_wp2_with fail;refine bodyPost_ret (v:=.tuple #[.agg #[.slice a1 n1 c1,.int .i64 R.2.1],.int .i64 R.2.2]) (by simp [results,Tryz.results257,go_sem,q0,q1]) rfl ?_;exact⟨⟨a1,n1,c1,rfl,(hi1.other hf1 ltB 0 _).other hf1 ltB 1 _,HN1.out,hc1,zal.mono hf1 hw.size⟩,(hw1.setCell (by show w.heap.size≤w.heap.size+1;omega) _).setCell (by show w.heap.size≤w.heap.size+1;omega) _⟩
def IsSt0 (w:World) (v:Value):Stu→Prop
  | .inl (.inl _)=>v=.func (.func 137) #[] #[]
  | .inl (.inr s)=>∃b1,v=.func (.func 322) #[] #[.pointer (some ⟨b1,0,none⟩)]∧w.cell? ⟨b1,0,none⟩=some (.int .i64 s)
  | .inr (.inl (s,p,words))=>∃b1 b2 b3 a2 n2 c2,v=.func (.func 253) #[] #[.pointer (some ⟨b1,0,none⟩),.pointer (some ⟨b2,0,none⟩),.pointer (some ⟨b3,0,none⟩)]∧w.cell? ⟨b1,0,none⟩=some (.int .i64 s)∧w.cell? ⟨b2,0,none⟩=some (.int .i64 p)∧w.cell? ⟨b3,0,none⟩=some (.slice a2 n2 c2)∧BI w a2 n2 words
  | .inr (.inr (.inl (s,l,nm)))=>∃b1 b2 b3,v=.func (.func 255) #[] #[.pointer (some ⟨b1,0,none⟩),.pointer (some ⟨b2,0,none⟩),.pointer (some ⟨b3,0,none⟩)]∧w.cell? ⟨b1,0,none⟩=some (.int .i64 s)∧w.cell? ⟨b2,0,none⟩=some (.int .i64 l)∧w.cell? ⟨b3,0,none⟩=some (.int .i64 nm)
  | .inr (.inr (.inr (s,r)))=>∃b1 b2 ar nr cr ak nk ck,v=.func (.func 257) #[] #[.pointer (some ⟨b1,0,none⟩),.pointer (some ⟨b2,0,none⟩)]∧w.cell? ⟨b1,0,none⟩=some (.slice ar nr cr)∧w.cell? ⟨b2,0,none⟩=some (.slice ak nk ck)∧BI w ar nr r∧zck w ak (keepU s)∧(keepU s).length=nk∧nk≤maxLen
def IsStu (w:World) (B:Nat) (v:Value) (st:Stu):Prop:=∀w' :World,w.grownBy w' (some B)→IsSt0 w' v st
theorem IsStu.turns {w w' :World} {B:Nat} {v:Value} {st:Stu} (h:IsStu w B v st) (hg:w.grownBy w' (some B)):IsStu w' B v st:=fun w2 h2=>h w2 (hg.trans h2)
def CapsOf (v:Value) (fn:Nat) (caps:Array Value):Prop:=v=.func (.func fn) #[] caps∧
  ((fn=137∧caps=#[])∨(fn=322∧∃p,caps=#[p])∨(fn=253∧∃p q r,caps=#[p,q,r])∨(fn=255∧∃p q r,caps=#[p,q,r])∨(fn=257∧∃p q,caps=#[p,q]))
theorem step_any (v:Value) (st:Stu) (a:Option Addr) (n c:Nat) (ws:List Int) (fuel:Int) (w:World) (hs:IsSt0 w v st) (h:BW w a n c ws):
    ∃fn caps,CapsOf v fn caps∧Calls Tryz.prog fn (#[.agg #[.slice a n c,.int .i64 fuel]]++caps) w (zbf w (doT st ws fuel)):=by
  rcases st with (_|s)| (⟨s,p,words⟩| (⟨s,l,nm⟩| ⟨s,r⟩))
  { exact⟨_,_,⟨hs,.inl ⟨rfl,rfl⟩⟩,zju a n c ws fuel w h.at_ h.len h.max⟩ }
  {
  obtain ⟨b1,hv,h1⟩:=hs;exact⟨_,_,⟨hv,.inr (.inl ⟨rfl,_,rfl⟩)⟩,zpo b1 s a n c ws fuel w h1 h⟩
  }
  {
  obtain ⟨b1,b2,b3,a2,n2,c2,hv,h1,h2,h3,h4⟩:=hs;exact⟨_,_,⟨hv,.inr (.inr (.inl ⟨rfl,_,_,_,rfl⟩))⟩,zpw b1 b2 b3 s p a2 n2 c2 words a n c ws fuel w h1 h2 h3 h4 h⟩
  }
  {
  obtain ⟨b1,b2,b3,hv,h1,h2,h3⟩:=hs;exact⟨_,_,⟨hv,.inr (.inr (.inr (.inl ⟨rfl,_,_,_,rfl⟩)))⟩,zpv b1 b2 b3 s l nm a n c ws fuel w h1 h2 h3 h⟩
  }
  {
  obtain ⟨b1,b2,ar,nr,cr,ak,nk,ck,hv,h1,h2,h3,h4,h5,h6⟩:=hs;exact⟨_,_,⟨hv,.inr (.inr (.inr (.inr ⟨rfl,_,_,rfl⟩)))⟩,zo2 b1 b2 ar nr cr r ak nk ck (keepU s) a n c ws fuel w h1 h2 h3 h4 h5 h6 h⟩
  }
theorem zho (ws:List Int) (fuel p:Int) (words:List Int): (progS ws fuel p words).1.length≤ws.length:=by
  unfold progS
  split
  { simp }
  {
  split
  { simp }
  {
  split
  { simp }
  { rw [zbw];exact Nat.le_refl _ }
  }
  }
theorem doS_le (st:Stp) (ws:List Int) (f:Int): (doS st ws f).1.length≤ws.length:=by
  cases st with
  |inl s=>exact zni _ _ _
  |inr q=>obtain ⟨p,words⟩:=q;exact zho _ _ _ _
theorem zi4 (sts:List Stp): ∀(ws:List Int) (f:Int),(turnS sts ws f).1.length≤ws.length:=by
  induction sts with
  |nil=>intro ws f;exact Nat.le_refl _
  |cons st r ih=>
    intro ws f
    by_cases h: (doS st ws f).2.2=0
    { rw [zjb h];exact Nat.le_trans (ih _ _) (doS_le _ _ _) }
    { rw [zgx h];exact doS_le _ _ _ }
theorem doT_le (st:Stu) (ws:List Int) (f:Int): (doT st ws f).1.length≤ws.length:=by
  rcases st with (_|s)| (⟨s,p,words⟩| (⟨s,l,nm⟩| ⟨s,r⟩))
  {
  show(fmtS ws f).1.length≤_
  unfold fmtS
  split
  { simp }
  { exact zi4 _ _ _ }
  }
  {
  show(clrS ws f s).1.length≤_
  unfold clrS
  split
  { simp }
  { exact zmc _ _ _ _ }
  }
  {
  show(fillS ws f s p words).1.length≤_
  unfold fillS
  split
  { simp }
  {
  split
  { simp }
  { exact zho _ _ _ _ }
  }
  }
  {
  show(sealS ws f s l nm).1.length≤_
  unfold sealS
  split
  { simp }
  {
  split
  { simp }
  { exact zho _ _ _ _ }
  }
  }
  {
  show(appS ws f r (keepU s)).1.length≤_
  unfold appS
  split
  { simp }
  {
  exact zi4 _ _ _
  }
  }
end
end Go.Proofs.YthmekfcgdfckaaaGreatDoor
