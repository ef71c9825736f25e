/- Facts. -/
import Derived.Test.YthmekfcgdfckaaaGreatDoorWz14
set_option maxRecDepth 1000000
set_option maxHeartbeats 0
namespace Go.Proofs.YthmekfcgdfckaaaGreatDoor
open Go.RowKit
variable {w:World} {K Z:Nat->Prop} {F k:Nat} {q:VB} {m:VA} {v:Vh} {x:Ms} {l:List Ms} {a:oA}
section
attribute [local go_sem ↓] kM kO
theorem MR.one (m:Ms) (c:LV) (h:MR w K m c): ∀v∈c,v.oneCell' =true:=by
 obtain ⟨a,n,cp,rfl,-⟩:=h;intro v hv
 simp at hv
 rcases hv with rfl|rfl|rfl|rfl|rfl|rfl|rfl<;>rfl
theorem CR.one (m:Cp) (c:LV) (h:CR w K m c): ∀v∈c,v.oneCell' =true:=by
 obtain ⟨m,rfl,-⟩:=h;intro v hv
 simp at hv
 rcases hv with rfl|rfl|rfl|rfl|rfl<;>rfl
theorem Vs.one {α:Type} {R:α->LV->Prop} (hR: ∀x c,R x c->∀v∈c,v.oneCell' =true): ∀{l:List α} {vs:LV},Vs R l vs->∀v∈vs,v.oneCell' =true
 | [],vs,h,v,hv=>by have h:vs= []:=h;subst h;cases hv
 |x::l,vs,⟨c,r,e,h1,h2⟩,v,hv=>by
  rw [e] at hv
  rcases KS.1 hv with h|h
  { exact hR _ _ h1 v h }
  { exact h2.one hR v h }
theorem VOwn.netRow (h:VOwn w F Z q m v): ∃cur,w.heap[q.bn]?=some (.cells cur 99 (0,0))/\cur.size=m.cn * 7/\m.nn<=m.cn/\Vs (MR w (KV Z q)) v.net (cur.toList.take (m.nn * 7))/\F<=q.bn/\m.cn<=maxLen:=by
 obtain ⟨vs,⟨l0,l1⟩,l2⟩:=h.net.row;have hat:=h.net.at_;rw [hat] at l1
 rcases l1 with ⟨l1,-⟩| ⟨gg,cap,cur,l1,l3,l4,l5,l6,l7,l8⟩
 { cases l1 }
 {
 cases l1;exact⟨cur,l4,l7,l5,by rw [l8];exact l2,l3,l6⟩ }
theorem VOwn.msgAt (h:VOwn w F Z q m v) (hk:v.net[k]?=some x): ∃a n c,(BI w a n x.ws/\Ao x.ws (KV Z q) a)/\(ce w q.bn (k * 7)=some (iV x.k)/\ce w q.bn (k * 7+1)=some (iV x.u)/\ce w q.bn (k * 7+2)=some (iV x.n)/\ce w q.bn (k * 7+3)=some (iV x.at')/\ce w q.bn (k * 7+4)=some (iV x.im)/\ce w q.bn (k * 7+5)=some (.slice a n c)/\ce w q.bn (k * 7+6)=some (.bool x.y)):=by
 obtain ⟨vs,-,h1,h2⟩:=h.net.isRow;obtain ⟨b,off,x,n,c,e,h3,h4,y0,y1,y2,y3,y4,y5,y6⟩:=zgd h1 h2 hk;rw [h.net.at_] at e;cases e;simp only [Kl] at y0 y1 y2 y3 y4 y5 y6;exact⟨x,n,c,⟨h3,h4⟩,y0,y1,y2,y3,y4,y5,y6⟩
theorem split_at7 {L p c r:LV} {n:Nat} (e:L.take (n * 7)=p++(c++r)) (hp:p.length=k * 7) (hc:c.length=7) (hL:n * 7<=L.length):L.take (k * 7)=p/\(L.drop ((k+1)* 7)).take ((n - 1 - k)* 7)=r/\r.length= (n - 1 - k)* 7:=by
 have h0:n * 7=k * 7+(7+r.length):=by
  have:=congrArg List.length e;rw [KQ,kK hL,kj,kj,hp,hc] at this;exact this
 have hl:L=p++(c++(r++L.drop (n * 7))):=by
  have:=(List.take_append_drop (n * 7) L).symm;rw [e] at this
  simpa only [KW] using this
 have hr:r.length= (n - 1 - k)* 7:=by omega
 generalize L.drop (n * 7)=t at *;subst hl;refine⟨by rw [<-hp,List.take_left], ?_,hr⟩;have e2: (k+1)* 7= (p++c).length:=by rw [kj,hp,hc];omega
 rw [e2,<-KW,List.drop_left,<-hr,List.take_left]
def TkAns (w:World) (F:Nat) (Z:Nat->Prop) (q:VB) (m:VA) (v:Vh) (k:Nat) (x:Ms) (e:Ending) (w' :World):Prop:=
 (∃a n c,e=.returned (.tuple #[msv x a n c,iV 0])/\BI w' a n x.ws/\Ao x.ws (KV Z q) a)/\VOwn w' F Z q ⟨m.ab,m.nb,m.cb,m.sa,m.ns,m.cs,m.g,m.au,m.nu,m.cu,m.ac,m.nc,m.cc,m.an,m.nn - 1,m.cn⟩ (takeM v k)/\Below F w w'
theorem take_no (F:Nat) (Z:Nat->Prop) (q:VB) (m:VA) (v:Vh) (k:Int) (w:World) (h:VOwn w F Z q m v) (hk:isM v k=false):
 Cq 127 #[.pointer (some ⟨q.B,0,none⟩),iV k] w fun e w' =>e=.returned (.tuple #[msv ms9 none 0 0,iV 5])/\bZ w w' :=by
 have hb1:bZ w (w.alloc (.cells #[iV 0,iV 0,iV 0,iV 0,iV 0,nV,.bool false] 99)):=bA1;have HN:=uH (fun W (hW:bZ w W)=>zd8 F Z q m v k W (h.bl hW));rw [hk] at HN;clear hk h;go_enter Tryz.func127,Tryz.ntmps127;go_wp2_with fail;refine(zae HN _ hb1).mono ?_;rintro e w1 ⟨rfl,hw1⟩;replace hw1:=hw1.symm;subst hw1;go_wp2_with fail;refine kT (v:=.tuple #[msv ms9 none 0 0,iV 5]) (by simp [results,Tryz.results127,go_sem,msv,ms9]) rfl ?_;exact⟨rfl,hb1⟩
theorem znt (F:Nat) (Z:Nat->Prop) (q:VB) (m:VA) (v:Vh) (k:Nat) (x:Ms) (w:World) (h:VOwn w F Z q m v) (hk:v.net[k]?=some x) (hcm:m.cn<=1000000):
 Cq 127 #[.pointer (some ⟨q.B,0,none⟩),iV k] w (TkAns w F Z q m v k x):=by
 have hkl:=(kY.1 hk).1;have hl:=h.net.len;have hkI: (k:Int)< (m.nn:Int):=by omega
 have hkt:isM v k=true:=by unfold isM inB;simp;omega
 have hb1:bZ w (w.alloc (.cells #[iV 0,iV 0,iV 0,iV 0,iV 0,nV,.bool false] 99)):=bA1;have HN:=uH (fun W (hW:bZ w W)=>zd8 F Z q m v k W (h.bl hW));rw [hkt] at HN;have H:=uH (h.addZ hb1);have HF:=uH h.lt;have HK:=uH hk;have hBB:=zak h.box;have hfB:=h.fB;have hbn:=h.net.lt.2;clear h hkt hkl hl;have b1:=uH (kP w (.cells #[iV 0,iV 0,iV 0,iV 0,iV 0,nV,.bool false] 99));have hs1:w.heap.size< (w.alloc (.cells #[iV 0,iV 0,iV 0,iV 0,iV 0,nV,.bool false] 99)).heap.size:=by simp
 obtain ⟨a,n,c,⟨bi,ao⟩,y0,y1,y2,y3,y4,y5,y6⟩:=H.o.msgAt HK.o;have x13: (w.alloc (.cells #[iV 0,iV 0,iV 0,iV 0,iV 0,nV,.bool false] 99)).cell? ⟨q.B,13,none⟩=some (.slice m.an m.nn m.cn):=zaa H.o.box 13 _ rfl;have hma:=H.o.net.at_;rw [hma] at x13;replace hma:=uH hma;go_enter Tryz.func127,Tryz.ntmps127;go_wp2_with fail;generalize hW1:w.alloc (.cells #[iV 0,iV 0,iV 0,iV 0,iV 0,nV,.bool false] 99)=W1 at *;clear hW1;refine(zae HN _ hb1).mono ?_;rintro e w1 ⟨rfl,hw1⟩;replace hw1:=hw1.symm;subst hw1;go_upto_region 4 with fail
 have hb2:bZ W1 (W1.alloc (.cells (aM x a n c) 99)):=bA1;have b2:=uH (kP W1 (.cells (aM x a n c) 99));replace b1:=uH (zab b1.o hb2);have H2:=uH (H.o.bl hb2);replace bi:=bi.bl hb2;replace x13:=(hb2.cell (zah x13)).trans x13;generalize W1.alloc (.cells (aM x a n c) 99)=W2 at *;clear y0 y1 y2 y3 y4 y5 y6 HN H;obtain ⟨cur,r1,r2,r3,r4,r5,r6⟩:=H2.o.netRow;have hnl:=H2.o.net.len;obtain ⟨p,cc,r,e1,e2,e3,e4⟩:=r4.cut MR.len HK.o;have hcc:=MR.len _ _ e3;have hkn:k<m.nn:=by omega
 obtain ⟨hp,hr,hrl⟩:=split_at7 e1 e2 hcc (by rw [Ki,r2];exact Kk _ r3);have HD:=uH (zra q.bn m.nn m.cn k cur W2 r1 hkn r3 r2 hcm (by rw [hr];intro u hu;exact(e4.one MR.one) u (List.mem_append_right _ hu)));have hwr:IntKind.i64.wrap ((k:Int)+1)= (k:Int)+1:=by rw [kD];omega
 have HV:=uH e4;have HP:=uH hp;have HRr:=uH hr;have HS:=uH (And.intro r2 (And.intro r3 (And.intro r5 r6)));have HKN:=uH hkn;clear e4 hp hr r1 r2 r3 r4 r5 r6 hnl e1 e2 e3 hcc hkn;go_wp2_with fail;refine(zae HD).mono ?_;rintro e w3 ⟨rfl,cur',d1,d2,d3,d4⟩;have d3' :cur'.toList.take ((m.nn - 1)* 7)=p++r:=by rw [d3,HP.o,HRr.o]
 have hcK:Chg (fun b=>b=q.bn) W2 w3:=.grown d4 (fun b e=>by cases e;rfl);have hcZ:Chg (KV (fun b=>Z b\/(w.heap.size<=b/\b<W1.heap.size)) q) W2 w3:=hcK.mono fun b e=>kv_bn e
 have hn3:=H2.o.n3;have x13' :w3.cell? ⟨q.B,13,none⟩=some (sV q.bn m.nn m.cn):=hcK.cell x13 (fun e=>hn3 e);have f13:w3.frozen? ⟨q.B,13,none⟩=false:=by rw [World.frozen?_of_block (w:=W2) (hcK.block q.B (zak H2.o.box) hn3)];exact zad H2.o.box 13
 have hlen: (takeM v k).net.length=m.nn - 1:=by
  have:=H2.o.net.len;have hk2:=HKN.o;simp only [takeM,kp,List.length_eraseIdx];rw [KK (by omega)];omega
 have HW:=uH (H2.o.setNet (b' :=q.bn) (n:=m.nn - 1) (c:=m.cn) (vs:=p++r) (l:=v.net.eraseIdx k) hcK (.inl rfl) ⟨by rw [kj,<-HP.o,KQ,Ki,HS.o.1,hrl];have:=HKN.o;have:=HS.o.2.1;omega,.inr ⟨q.bn,m.cn,cur',rfl,HS.o.2.2.1,d1,by have:=HS.o.2.1;omega,HS.o.2.2.2,by rw [d2];exact HS.o.1,d3'⟩⟩ (HV.o.mono (MR.chg hcZ)) (by simpa [takeM] using hlen));have bi3:BI w3 a n x.ws:=⟨bi.at_.chg hcZ ao,bi.len,bi.max⟩;have hlo:w.heap.size≠q.B:=by omega
 have hsz:=hb1.size;replace b1:=uH (hcK.blk b1.o (show¬w.heap.size=q.bn by omega));replace b2:=uH (hcK.blk b2.o (show¬W1.heap.size=q.bn by omega));have hrb:W1.heap.size≠q.B:=by omega
 obtain ⟨u0,u1,u2,u3,u4,u5,u6⟩:=cl7 b2.o;obtain ⟨z0,z1,z2,z3,z4,z5,z6⟩:=cl7 b1.o;obtain ⟨g0,g1,g2,g3,g4,g5,g6⟩:=fr7 b1.o;have HZ:Hd ((fun b=>Z b\/(w.heap.size<=b/\b<W1.heap.size)) w.heap.size):=.inr ⟨kQ _,hs1⟩;have hBl:Below F w w3:=((hb1.mono HF.o).trans (hb2.mono (kc HF.o hb1.size))).trans (hcK.bl (fun b e=>by rw [e];exact HS.o.2.2.1) (kc (kc HF.o hb1.size) hb2.size));clear b1 b2 hcZ d1 d2 d3 d4 d3' hlen HD hwr hb2 hbn;have HBI:=uH (And.intro bi3 ao);have HBl:=uH hBl;have hlt:F<=w3.heap.size:=kc HF.o hBl.size;clear bi3 ao bi hBl x13 hcK;go_wp2_with fail;refine kT (v:=.tuple #[msv x a n c,iV 0]) (by simp [results,Tryz.results127,go_sem,msv,z0,z1,z2,z3,z4,z5,z6]) rfl ?_;have hW4:VOwn (puts (w3.setCell ⟨q.B,13,none⟩ (sV q.bn (m.nn - 1) m.cn)) w.heap.size 0 [iV x.k,iV x.u,iV x.n,iV x.at',iV x.im,.slice a n c,.bool x.y]) F Z q ⟨m.ab,m.nb,m.cb,m.sa,m.ns,m.cs,m.g,m.au,m.nu,m.cu,m.ac,m.nc,m.cc,some ⟨q.bn,0,none⟩,m.nn - 1,m.cn⟩ (takeM v k):=(HW.o.putZ HZ.o hlo _).lessZ (fun b e=>.inl e);have hc5:Chg (KV (fun b=>Z b\/(w.heap.size<=b/\b<W1.heap.size)) q) w3 (puts (w3.setCell ⟨q.B,13,none⟩ (sV q.bn (m.nn - 1) m.cn)) w.heap.size 0 [iV x.k,iV x.u,iV x.n,iV x.at',iV x.im,.slice a n c,.bool x.y]):=((Chg.refl (KV (fun b=>Z b\/(w.heap.size<=b/\b<W1.heap.size)) q) w3).set (kv_B rfl) _).trans ((zbn _ _ _ _).mono fun b e=>.inl (by rw [e];exact HZ.o));have hb5:Below F w (puts (w3.setCell ⟨q.B,13,none⟩ (sV q.bn (m.nn - 1) m.cn)) w.heap.size 0 [iV x.k,iV x.u,iV x.n,iV x.at',iV x.im,.slice a n c,.bool x.y]):=(HBl.o.setCell (p:=⟨q.B,13,none⟩) hfB _).trans (zbd _ HF.o (by simpa [World.setCell] using hlt));have hfin:TkAns w F Z q m v k x (.returned (.tuple #[msv x a n c,iV 0])) (puts (w3.setCell ⟨q.B,13,none⟩ (sV q.bn (m.nn - 1) m.cn)) w.heap.size 0 [iV x.k,iV x.u,iV x.n,iV x.at',iV x.im,.slice a n c,.bool x.y]):=
  ⟨⟨a,n,c,rfl,⟨HBI.o.1.at_.chg hc5 HBI.o.2,HBI.o.1.len,HBI.o.1.max⟩,HBI.o.2.mono fun b e=>by rcases e with e|e;exact .inl (.inl e);exact .inr e⟩,by rw [hma.o];exact hW4,hb5⟩
 exact hfin
end
section
attribute [local go_sem ↓] kM kO
theorem zpz (g n cap c:Nat) (a:oA) (ty:TypeId) (w:World) (h:n<=cap):
 (Builtin.append_ #[38,38] ty #[sV g n cap,.slice a 0 c]).run Tryz.prog w=.ok (sV g n cap) w:=by
 obtain ⟨i0,hi0,hz0,hz1,hz2⟩:=info_parts infoM;have hl: ∀(x:Addr),(loadCells x 0).run Tryz.prog w=.ok #[] w:=fun x=>by simpa using run_loadCells_list (P:=Tryz.prog) w x [] (by simp)
 cases a<;>simp [Builtin.append_,run_underlying Tryz.underlying38,Builtin.lenOf,Builtin.firstCells,sizeOf,typeInfo,hi0,storeCells,hl,h]
def SdAns (w:World) (F:Nat) (Z:Nat->Prop) (B:Nat) (v:Vh) (l:List Ms) (w' :World):Prop:=
 (∃q m,q.B=B/\VOwn w' F Z q m ⟨v.ss,v.sg,v.g,v.us,v.cs,sendS v.net l,v.now⟩)/\Below F w w'
theorem zgs (F:Nat) (Z:Nat->Prop) (q:VB) (m:VA) (v:Vh) (a:oA) (n c:Nat) (l:List Ms) (mvs:LV) (w:World) (h:VOwn w F Z q m v) (hn:m.nn<=24) (hr:IsRow w a mvs) (hv:Vs (MR w (KV Z q)) l mvs) (hl:l.length=n) (hc:n<=c):
 Cq 193 #[.pointer (some ⟨q.B,0,none⟩),.slice a n c] w fun e w' =>e=.returned (.tuple #[])/\SdAns w F Z q.B v l w' :=by
 have x13:=zaa h.box 13 (.slice m.an m.nn m.cn) rfl;have hat:=h.net.at_;rw [hat] at x13;have f13:w.frozen? ⟨q.B,13,none⟩=false:=zad h.box 13;have hnl:=h.net.len;have i1:IntKind.i64.wrap (24 - (m.nn:Int))=24 - (m.nn:Int):=by rw [kD];omega
 obtain ⟨cur,r1,r2,r3,r4,r5,r6⟩:=h.netRow;obtain ⟨k,hk⟩: ∃k:Nat,k=min (24 - m.nn) n:=⟨_,rfl⟩;have hmin:min (24 - (m.nn:Int)) (n:Int)= (k:Int):=by omega
 have i2: (k:Int)<=(c:Int):=by omega
 have HSd:Hd (sendS v.net l=v.net++l.take k):=by
  unfold sendS;rw [hnl]
  show _=_
  congr 1
  by_cases hx:24 - m.nn<=n
  { rw [hk,kK hx] }
  { rw [hk,Nat.min_eq_right (by omega),kh (by omega),kh (by omega)] }
 have H:=uH h;have HA:Hd (∃v' w',(Builtin.append_ #[38,38] 38 #[sV q.bn m.nn m.cn,.slice a k c]).run Tryz.prog w.drew=.ok v' w' /\w'.ownsRow F 99 7 v' (m.nn+k) (cur.toList.take (m.nn * 7)++mvs.take (k * 7))/\w.drew.grownBy w' (some q.bn)/\(∃b' c',v' =sV b' (m.nn+k) c' /\(b' =q.bn\/w.heap.size<=b'))):=by
  have ho:w.drew.ownsRow F 99 7 (sV q.bn m.nn m.cn) m.nn (cur.toList.take (m.nn * 7)):=⟨by rw [KQ,Ki,r2];exact kK (Kk _ r3),.inr ⟨q.bn,m.cn,cur,rfl,r5,r1,r3,r6,r2,rfl⟩⟩
  by_cases hk0:k=0
  {
  subst hk0;exact⟨_,_,zpz _ _ _ _ a _ _ r3,by simpa using ho,⟨rfl,rfl,rfl,kQ _,fun _ _ _=>rfl⟩,q.bn,m.cn,by simp,.inl rfl⟩ }
  {
  obtain ⟨irr,hir,rz0,rz1,rz2⟩:=info_parts infoM;have hmv:=hv.len MR.len
  rcases hr with hr| ⟨ba,oa,rfl,hrc⟩
  { rw [hr] at hmv;simp at hmv;omega }
  obtain ⟨v',w',e1,e2,e3,e4,e5⟩:=run_append_own_at (P:=Tryz.prog) w.drew F 38 38 99 irr _ 7 72 Tryz.underlying38 hir rz0 rz1 rz2 rfl (by omega) (sV q.bn m.nn m.cn) m.nn _ ho ⟨ba,oa,none⟩ k c (mvs.take (k * 7)) (by rw [KQ];omega) (fun j u hu=>by rw [zc2];exact hrc j u (by rw [List.getElem?_take] at hu;split at hu;exact hu;cases hu)) (fun u hu=>(hv.one MR.one) u (List.mem_of_mem_take hu)) (by unfold maxLen;omega) (by omega) H.o.lt;refine⟨v',w',e1,e2,e3, ?_⟩;obtain ⟨-,⟨e6,-⟩| ⟨g',c',cur',e6,-⟩⟩:=e2
  { exact absurd (e4.1 e6).2 hk0 }
  {
  subst e6;refine⟨g',c',rfl, ?_⟩
  rcases e5 with e5|e5
  { exact .inl (kJ e5) }
  { exact .inr (Kg (kJ e5).symm) } } }
 obtain ⟨v',w4,ha,ho4,hg4,b',c',rfl,hb'⟩:=HA.o;have HO4:=uH ho4;have HG4:=uH hg4;have HB4:=uH hb';have HV:=uH hv;have HR4:=uH r4;have HLt:=uH h.lt;have hn3:=h.n3;have hBl:=zak h.box;have x13' :w4.cell? ⟨q.B,13,none⟩=some (sV q.bn m.nn m.cn):=(Chg.grown (K:=fun b=>b=q.bn) hg4 (fun b e=>by cases e;rfl)).cell (w:=w.drew) x13 hn3;have f13' :w4.frozen? ⟨q.B,13,none⟩=false:=by rw [World.frozen?_of_block (w:=w.drew) (hg4.block q.B hBl (fun e=>hn3 (kJ e)))];exact f13
 have HL:=uH hl;have HNL:=uH hnl;have HK:=uH hk;clear ho4 hg4 hb' hv r1 r2 r3 r4 r5 r6 h hr HA hl hnl hk;go_enter Tryz.func193,Tryz.ntmps193;go_upto_region 1 with fail
 have hSS:w.drew.cell? ⟨q.B,13,none⟩=some (sV q.bn m.nn m.cn):=x13;refine zlm 14 (fun W' =>W'.cell? ⟨q.B,13,none⟩=some (sV q.bn m.nn m.cn)) (by kernel_rfl) hSS ?_;intro _;refine Utk 0 ?_
 refine Utk 1 ?_
 refine Utk 2 ?_
 refine Utk 3 ?_
 try simp only [sq]
 refine zge (i:=4) (v:= ?_) (by simp only [KN,KM,KL];rfl) (by simp only [KN,KM,KL];rfl) (by kernel_rfl) (by exact fun _ _ _ h=>h) (Or.inl ⟨by rfl, ?_⟩) (by first|exact fun _=>hSS|exact fun h=>absurd h (by decide)) ?_;rotate_left
 {
 intro w hSw
 try dsimp only at hSw
 go_simp
 try with_reducible rfl }
 refine Utk 5 ?_
 refine Utk 6 ?_
 refine Utk 7 ?_
 refine Utk 8 ?_
 refine Utk 9 ?_
 refine Utk 10 ?_
 try simp only [sq]
 refine ze5 (rs:= [11]) (by kernel_rfl) (by simp) ?_;refine(zgm (by rfl) (fun K hK=> ?_) U_nil);refine Lib.wp_append_run _ (.tmp 15) (.tmp 21) _ _ rfl _ _ rfl rfl _ _ ha ?_;refine hK.out _ _ (fun _=>x13') (fun _=> ?_);clear hK K
 try simp only [sq]
 replace hSS:=x13';refine Utk 12 ?_
 refine Utk 13 ?_
 try simp only [sq]
 refine ze5 (rs:= [14]) (by kernel_rfl) (by simp) ?_;refine(zgm (by rfl) (fun K hK=> ?_) U_nil);go_simp;refine hK.out _ _ (fun h=>absurd h (by decide)) (fun _=> ?_);clear hK K
 try simp only [sq]
 refine U_done (by kernel_rfl) ?_ _;have hcK:Chg (fun b=>b=q.bn) w w4:=⟨HG4.o.os,HG4.o.tape,HG4.o.output,HG4.o.size,fun k hk hn=>HG4.o.block k hk (fun e=>hn (kJ e))⟩;have HW:=uH (H.o.setNet (b' :=b') (n:=m.nn+k) (c:=c') (vs:=cur.toList.take (m.nn * 7)++mvs.take (k * 7)) (l:=v.net++l.take k) hcK HB4.o HO4.o (by
  have hK2: ∀b,KV Z ⟨q.B,q.bu,q.bc,b'⟩ b->KV Z q b\/w.heap.size<=b:=fun b e=>kv_net HB4.o e
  have hC2:Chg (fun b=>KV Z q b\/w.heap.size<=b) w w4:=hcK.mono fun b e=>.inl (kv_bn e)
  have g1:=((HR4.o.app (HV.o.take MR.len k)).mono (MR.off (K' :=fun b=>KV Z q b\/w.heap.size<=b) fun b e=>e)).mono (MR.chg hC2);exact g1.mono (MR.off fun b e=>.inl (hK2 b e))) (by rw [kj,HNL.o,KQ,HL.o];have:=HK.o;omega))
 have hb4:Below F w w4:=hcK.bl (fun b e=>by rw [e];exact H.o.net.lt.1) HLt.o;have hb5:Below F w (w4.setCell ⟨q.B,13,none⟩ (sV b' (m.nn+k) c')):=hb4.setCell H.o.fB _;go_wp2_with fail
 first|go_end0|refine kT (results_none rfl _ _ _) rfl ?_
 exact⟨rfl,⟨⟨q.B,q.bu,q.bc,b'⟩,_,rfl,by rw [HSd.o];exact HW.o⟩,hb5⟩
end
section
attribute [local go_sem ↓] kM kO
theorem vs_one {α:Type} {R:α->LV->Prop} {x:α} {c:LV} (h:R x c):Vs R [x] c:=⟨c, [],by simp,h,rfl⟩
theorem zif {w1 w' :World} {B:Nat} {r:Vh×Int} (hr:r= (⟨v.ss,v.sg,v.g,v.us,v.cs,sendS v.net l,v.now⟩,0)) (h:SdAns w1 F Z B v l w') (hb:Below F w w1):HV w F Z B r (.returned (iV 0)) w' :=by
 subst hr;obtain ⟨⟨q,m,e,h1⟩,h2⟩:=h;exact⟨rfl,hb.trans h2,fun _=>⟨q,m,e,h1⟩⟩
theorem zq4 (F:Nat) (Z:Nat->Prop) (q:VB) (m:VA) (v:Vh) (k:Int) (w:World) (h:VOwn w F Z q m v) (hn:m.nn<=24) (hs: ∀x∈v.net,x.ws.length<=1000000):
 Cq 128 #[.pointer (some ⟨q.B,0,none⟩),iV k] w (HV w F Z q.B (dblS v k)):=by
 have HN:=uH (zd8 F Z q m v k w h);have hnl:=h.net.len;cases hk:isM v k
 {
 have HE:Hd (dblS v k= (vh0,5)):=by unfold dblS;rw [KK hk];exact rfl
 rw [hk] at HN;clear hk h hs hnl;go_enter Tryz.func128,Tryz.ntmps128;go_wp2_with fail;refine(zae HN).mono ?_;rintro e w1 ⟨rfl,hw1⟩;replace hw1:=hw1.symm;subst hw1;go_wp2_with fail;go_ret;exact zbs (by rw [HE.o]) (by decide) (kS _ _) }
 rw [hk] at HN;have x13:=zaa h.box 13 (.slice m.an m.nn m.cn) rfl;rw [h.net.at_] at x13
 by_cases hf:m.nn=24
 {
 have HE:Hd (dblS v k= (vh0,8)):=by unfold dblS;rw [KJ (by rw [hk];decide),KK (by rw [hnl];exact hf)];exact rfl
 have d: ((m.nn:Int)==24)=true:=by simp;omega
 clear hk h hs hnl hf;go_enter Tryz.func128,Tryz.ntmps128;go_wp2_with fail;refine(zae HN).mono ?_;rintro e w1 ⟨rfl,hw1⟩;replace hw1:=hw1.symm;subst hw1;go_wp2_with fail;go_ret;exact zbs (by rw [HE.o]) (by decide) (kS _ _) }
 have d: ((m.nn:Int)==24)=false:=by simp;omega
 obtain ⟨j,rfl⟩: ∃j:Nat,k= (j:Int):=⟨k.toNat,by unfold isM inB at hk;simp at hk;omega⟩;have hj:j<v.net.length:=by unfold isM inB at hk;simp at hk;omega
 have hjI: (j:Int)< (m.nn:Int):=by omega
 have hku:v.net[j]?=some v.net[j]:=kX hj;have HR:Hd (dblS v j= (⟨v.ss,v.sg,v.g,v.us,v.cs,sendS v.net [v.net[j]],v.now⟩,0)):=by
  unfold dblS sendS;rw [KJ (by rw [hk];decide),KJ (by omega)];simp only [kp];rw [show v.net.getD j ms9=v.net[j] by simp [hj],kh (by simp;omega)];exact rfl
 obtain ⟨a,n,c,⟨bi,ao⟩,y0,y1,y2,y3,y4,y5,y6⟩:=h.msgAt hku;have HT:=uH (zf0 v.net[j] a n c w bi (by rw [<-bi.len];exact hs _ (KH hj)));unfold msv at HT;have H:=uH h;have hlt:=h.lt;clear hk h hs hnl hf hku ao bi;generalize v.net[j]=x at *;clear hj;go_enter Tryz.func128,Tryz.ntmps128;go_wp2_with fail;refine(zae HN).mono ?_;rintro e w1 ⟨rfl,hw1⟩;replace hw1:=hw1.symm;subst hw1;go_wp2_with fail;refine(zae HT).mono ?_;rintro e w1 ⟨⟨g,hg,rfl⟩,hb⟩;have hb2:bZ w (w1.alloc (.cells #[iV x.k,iV x.u,iV x.n,iV x.at',iV x.im,sV g n n,.bool x.y] 99)):=hb.alloc hb.size _;have hba:bZ w1 (w1.alloc (.cells #[iV x.k,iV x.u,iV x.n,iV x.at',iV x.im,sV g n n,.bool x.y] 99)):=bA1;have hrow:IsRow (w1.alloc (.cells #[iV x.k,iV x.u,iV x.n,iV x.at',iV x.im,sV g n n,.bool x.y] 99)) (some ⟨w1.heap.size,0,none⟩) [iV x.k,iV x.u,iV x.n,iV x.at',iV x.im,sV g n n,.bool x.y]:=zcq (kP w1 (.cells #[iV x.k,iV x.u,iV x.n,iV x.at',iV x.im,sV g n n,.bool x.y] 99));have hmr:MR (w1.alloc (.cells #[iV x.k,iV x.u,iV x.n,iV x.at',iV x.im,sV g n n,.bool x.y] 99)) (KV Z q) x [iV x.k,iV x.u,iV x.n,iV x.at',iV x.im,sV g n n,.bool x.y]:=⟨some ⟨g,0,none⟩,n,n,rfl,hg.2.2.bl hba,.at_ (fun e=>by have:=H.o.kv g e;have:=hg.1;omega)⟩;have HS:=uH (zgs F Z q m v (some ⟨w1.heap.size,0,none⟩) 1 1 [x] _ _ (H.o.bl hb2) hn hrow (vs_one hmr) rfl (kQ _));clear hrow hmr hba;go_wp2_with fail;refine(zae HS).mono ?_;rintro e w4 ⟨rfl,hs4⟩;go_wp2_with fail;go_ret;exact zif HR.o hs4 (hb2.mono hlt)
theorem query_any (F:Nat) (Z:Nat->Prop) (q:VB) (m:VA) (v:Vh) (k:Int) (w:World) (h:VOwn w F Z q m v) (hn:m.nn<=24) (hu:unsE v.us v.g.vo.length=0):
 Cq 125 #[.pointer (some ⟨q.B,0,none⟩),iV k] w (HV w F Z q.B (qryS v k)):=by
 have HN:=uH (zf7 F Z q m v k w h);cases hk:isU v k
 {
 have HE:Hd (qryS v k= (vh0,5)):=by unfold qryS;rw [KK hk];exact rfl
 rw [hk] at HN;clear hk h hu;go_enter Tryz.func125,Tryz.ntmps125;go_wp2_with fail;refine(zae HN).mono ?_;rintro e w1 ⟨rfl,hw1⟩;replace hw1:=hw1.symm;subst hw1;go_wp2_with fail;go_ret;exact zbs (by rw [HE.o]) (by decide) (kS _ _) }
 rw [hk] at HN;obtain ⟨j,rfl⟩: ∃j:Nat,k= (j:Int):=⟨k.toNat,by unfold isU inB at hk;simp at hk;omega⟩;have hj:j<v.us.length:=by unfold isU inB at hk;simp at hk;omega
 have hnl:=h.us.len;have hjI: (j:Int)< (m.nu:Int):=by omega
 have hku:v.us[j]?=some v.us[j]:=kX hj;have hun:=zj6 hu hku;have hgd:v.us.getD j un9=v.us[j]:=by simp [hj]
 have x11:=zaa h.box 11 (.slice m.au m.nu m.cu) rfl;rw [h.us.at_] at x11;obtain ⟨x,nx,cx,q0,y0,y1,y2,y3,y4⟩:=h.unitAt hku;cases hup:v.us[j].up
 {
 have HE:Hd (qryS v j= (vh0,7)):=by unfold qryS;rw [KJ (by rw [hk];decide)];simp only [kp];rw [hgd,KK hup];exact rfl
 rw [hup] at y2;clear hk h hu hnl hun hgd hku q0 hup;go_enter Tryz.func125,Tryz.ntmps125;go_wp2_with fail;refine(zae HN).mono ?_;rintro e w1 ⟨rfl,hw1⟩;replace hw1:=hw1.symm;subst hw1;go_wp2_with fail;go_ret;exact zbs (by rw [HE.o]) (by decide) (kS _ _) }
 have HC:=uH (zm7 v.us[j] x nx cx w q0);have HRd:Hd (zer v.us[j]= (stOf v.us[j].ws,0)):=by unfold zer;rw [KJ (by simpa using hun)];exact rfl
 rw [HRd.o] at HC;have HQ:Hd ((inB (stOf v.us[j].ws).rdy 1 8=false->qryS v j= (vh0,12))/\(inB (stOf v.us[j].ws).rdy 1 8=true->qryS v j= (⟨v.ss,v.sg,v.g,v.us,v.cs,sendS v.net [⟨7,j,(stOf v.us[j].ws).rdy,0,0, [],false⟩],v.now⟩,0))):=by
  refine⟨fun hz=> ?_,fun hz=> ?_⟩
  { unfold qryS;rw [KJ (by rw [hk];decide)];simp only [kp];rw [hgd,KJ (by rw [hup];decide),KK hz] }
  { unfold qryS;rw [KJ (by rw [hk];decide)];simp only [kp];rw [hgd,KJ (by rw [hup];decide),KJ (by rw [hz];decide)] }
 rw [hup] at y2;unfold usv unv at HC;rw [hup] at HC;have H:=uH h;have hlt:=h.lt;clear hk h hu hnl hun hgd hku q0 hup HRd;generalize stOf v.us[j].ws=s at *;generalize v.us[j]=u at *;clear hj;go_enter Tryz.func125,Tryz.ntmps125;go_wp2_with fail;refine(zae HN).mono ?_;rintro e w1 ⟨rfl,hw1⟩;replace hw1:=hw1.symm;subst hw1;go_wp2_with fail;refine(zae HC).mono ?_;rintro e w1 ⟨rfl,hb⟩;have hb2:bZ w (w1.alloc (.cells #[iV s.slot,iV s.by',iV s.rdy] 84)):=hb.alloc hb.size _;have bs:=uH (kP w1 (.cells #[iV s.slot,iV s.by',iV s.rdy] 84));have s2:=zaa bs.o 2 _ rfl;clear y0 y1 y2 y3 y4 x11 HC HN hb;have HWt:=uH (fun W=>zdq s.rdy 1 8 W);go_wp2_with fail;generalize w1.alloc (.cells #[iV s.slot,iV s.by',iV s.rdy] 84)=W2 at *;refine(zae HWt _).mono ?_;rintro e w3 ⟨rfl,hw3⟩;replace hw3:=hw3.symm;subst hw3;cases hz:inB s.rdy 1 8
 {
 have HE:=uH (HQ.o.1 hz);clear hz;go_wp2_with fail;go_ret;exact zbs (by rw [HE.o]) (by decide) (hb2.mono hlt) }
 have HE:=uH (HQ.o.2 hz);clear hz HWt;have hb3:bZ w (W2.alloc (.cells #[iV 7,iV (j:Int),iV s.rdy,iV 0,iV 0,nV,.bool false] 99)):=hb2.alloc hb2.size _;have hrow:IsRow (W2.alloc (.cells #[iV 7,iV (j:Int),iV s.rdy,iV 0,iV 0,nV,.bool false] 99)) (some ⟨W2.heap.size,0,none⟩) [iV 7,iV (j:Int),iV s.rdy,iV 0,iV 0,nV,.bool false]:=zcq (kP W2 (.cells #[iV 7,iV (j:Int),iV s.rdy,iV 0,iV 0,nV,.bool false] 99));have hmr:MR (W2.alloc (.cells #[iV 7,iV (j:Int),iV s.rdy,iV 0,iV 0,nV,.bool false] 99)) (KV Z q) ⟨7,j,s.rdy,0,0, [],false⟩ [iV 7,iV (j:Int),iV s.rdy,iV 0,iV 0,nV,.bool false]:=⟨none,0,0,rfl,⟨.inl rfl,rfl,by decide⟩,.inl rfl⟩;have HS:=uH (zgs F Z q m v (some ⟨W2.heap.size,0,none⟩) 1 1 [⟨7,j,s.rdy,0,0, [],false⟩] _ _ (H.o.bl hb3) hn hrow (vs_one hmr) rfl (kQ _));clear hrow hmr;go_wp2_with fail;refine(zae HS).mono ?_;rintro e w4 ⟨rfl,hs4⟩;go_wp2_with fail;go_ret;exact zif HE.o hs4 (hb3.mono hlt)
end
section
attribute [local go_sem ↓] kM kO
theorem za9.chg {w' :World} (h:za9 w a l) (hc:Chg K w w') (ha: ∀ad,a=some ad->¬K ad.block):za9 w' a l:=by
 rcases h with h| ⟨b,rfl,hi⟩
 { exact .inl h }
 {
 refine .inr ⟨b,rfl,fun i m hm=> ?_⟩;obtain ⟨h0,h1,h2,h3,h4,h5,h6,h7⟩:=hi i m hm;have hb:=ha ⟨b,0,none⟩ rfl;exact⟨h0,hc.cell h1 hb,hc.cell h2 hb,hc.cell h3 hb,hc.cell h4 hb,hc.cell h5 hb,hc.cell h6 hb,hc.cell h7 hb⟩ }
theorem vs_flat {α:Type} {R:α->LV->Prop} {k:Nat} (hR: ∀x c,R x c->c.length=k) (hk:0<k): ∀{l:List α} {vs:LV} (j:Nat) (u:Value),Vs R l vs->vs[j]?=some u->∃x c,l[j / k]?=some x/\R x c/\c[j % k]?=some u
 | [],vs,j,u,h,hu=>by have h:vs= []:=h;subst h;simp at hu
 |x::l,vs,j,u,⟨c,r,e,h1,h2⟩,hu=>by
  have hc:=hR _ _ h1
  by_cases hj:j<k
  {
  rw [e,KD (by omega)] at hu;exact⟨x,c,by rw [Nat.div_eq_of_lt hj];rfl,h1,by rw [Nat.mod_eq_of_lt hj];exact hu⟩ }
  {
  rw [e,KC (by omega),hc] at hu;obtain ⟨y,d,q1,q2,q3⟩:=vs_flat hR hk (j - k) u h2 hu;refine⟨y,d, ?_,q2, ?_⟩
  { rw [Nat.div_eq_sub_div hk (by omega)];simpa using q1 }
  { rw [Nat.mod_eq_sub_mod (by omega)];exact q3 } }
def HrAns (w:World) (F:Nat) (Z:Nat->Prop) (q:VB) (m:VA) (r:Vh×List Ms×Int) (e:Ending) (w' :World):Prop:=
 (∃a n c,e=.returned (.tuple #[.slice a n c,iV r.2.2])/\za9 w' a r.2.1/\r.2.1.length=n/\n<=c/\(r.2.2=0->∃m',VOwn w' F Z q m' r.1/\m'.nn=m.nn/\m'.cn=m.cn))/\Below F w w'
theorem msgs_vs (h:za9 w a l) (K:Nat->Prop): ∃vs,IsRow w a vs/\Vs (MR w K) l vs:=by
 rcases h with rfl| ⟨b,rfl,hc⟩
 { exact⟨[],.inl rfl,rfl⟩ }
 {
 refine⟨(l.map fun m=> [iV m.k,iV m.u,iV m.n,iV m.at',iV m.im,nV,.bool m.y]).flatten, ?_, ?_⟩
 {
 have hv: ∀l:List Ms,Vs (fun (m:Ms) c=>c= [iV m.k,iV m.u,iV m.n,iV m.at',iV m.im,nV,.bool m.y]) l (l.map fun m=> [iV m.k,iV m.u,iV m.n,iV m.at',iV m.im,nV,.bool m.y]).flatten:=by
  intro l
  induction l with
  |nil=>exact rfl
  |cons x r ih=>exact⟨_,_,rfl,rfl,ih⟩
 refine .inr ⟨b,0,rfl,fun j u hu=> ?_⟩;obtain ⟨m,c,h1,rfl,h3⟩:=vs_flat (k:=7) (fun x c h=>by rw [h];rfl) (by decide) j u (hv l) hu;obtain ⟨-,c0,c1,c2,c3,c4,c5,c6⟩:=hc _ _ h1;have hj:j=j / 7 * 7+j % 7:=by omega
 have hlt:j % 7<7:=Nat.mod_lt _ (by decide);rw [Kl];generalize j / 7=p at *;generalize j % 7=r at *;subst hj
 match r,hlt,h3 with
 |0,_,h3=>cases h3;exact c0
 |1,_,h3=>cases h3;exact c1
 |2,_,h3=>cases h3;exact c2
 |3,_,h3=>cases h3;exact c3
 |4,_,h3=>cases h3;exact c4
 |5,_,h3=>cases h3;exact c5
 |6,_,h3=>cases h3;exact c6 }
 {
 have: ∀l:List Ms,(∀m∈l,m.ws= [])->Vs (MR w K) l (l.map fun m=> [iV m.k,iV m.u,iV m.n,iV m.at',iV m.im,nV,.bool m.y]).flatten:=by
  intro l
  induction l with
  |nil=>intro _;exact rfl
  |cons x r ih=>intro hx;exact⟨_,_,rfl,⟨none,0,0,rfl,⟨.inl (hx x (by simp)),by rw [hx x (by simp)];rfl,by decide⟩,.inl (hx x (by simp))⟩,ih (fun m hm=>hx m (by simp [hm]))⟩
 exact this l (fun m hm=>by obtain ⟨i,hi⟩:=List.mem_iff_getElem?.1 hm;exact(hc i m hi).1) } }
theorem hear_gate (F:Nat) (Z:Nat->Prop) (q:VB) (m:VA) (v:Vh) (x:Ms) (a:oA) (n c:Nat) (w:World) (h:VOwn w F Z q m v) (hk:x.k=3\/x.k=6\/x.k=7):
 Cq 194 #[.pointer (some ⟨q.B,0,none⟩),msv x a n c] w (HrAns w F Z q m (⟨v.ss,v.sg,(gHear v.g x).1,v.us,v.cs,v.net,v.now⟩,(gHear v.g x).2.1,(gHear v.g x).2.2)):=by
 have hb1:bZ w (w.alloc (.cells (aM x a n c) 99)):=bA1;have b1:=uH (kP w (.cells (aM x a n c) 99));have H:=uH (h.bl hb1);have HC:=uH (fun W (hW:Below (w.alloc (.cells (aM x a n c) 99)).heap.size (w.alloc (.cells (aM x a n c) 99)) W)=>zoo v.g m.g x a n c W (H.o.g.bl hW));unfold gtv msv at HC;have x2: ce (w.alloc (.cells (aM x a n c) 99)) q.B 2=some (.slice m.g.a m.g.n m.g.c):=zaa H.o.box 2 _ rfl;have x3: ce (w.alloc (.cells (aM x a n c) 99)) q.B 3=some (iV v.g.fu):=zaa H.o.box 3 _ rfl;have x4: ce (w.alloc (.cells (aM x a n c) 99)) q.B 4=some (.bool v.g.up):=zaa H.o.box 4 _ rfl;have x5: ce (w.alloc (.cells (aM x a n c) 99)) q.B 5=some (iV v.g.t.r.v):=zaa H.o.box 5 _ rfl;have x6: ce (w.alloc (.cells (aM x a n c) 99)) q.B 6=some (.slice m.g.ak m.g.nk m.g.ck):=zaa H.o.box 6 _ rfl;have x7: ce (w.alloc (.cells (aM x a n c) 99)) q.B 7=some (iV v.g.t.r.t):=zaa H.o.box 7 _ rfl;have x8: ce (w.alloc (.cells (aM x a n c) 99)) q.B 8=some (iV v.g.t.ver):=zaa H.o.box 8 _ rfl;have x9: ce (w.alloc (.cells (aM x a n c) 99)) q.B 9=some (.slice m.g.av m.g.nv m.g.cv):=zaa H.o.box 9 _ rfl;have x10: ce (w.alloc (.cells (aM x a n c) 99)) q.B 10=some (.slice m.g.ad m.g.nd m.g.cd):=zaa H.o.box 10 _ rfl;obtain ⟨z0,z1,z2,z3,z4,z5,z6⟩:=cl7 b1.o;have HF:=uH h.lt;clear h;unfold msv;have hd: ((x.k==3)=true)\/((x.k==3)=false/\(x.k==6)=true)\/((x.k==3)=false/\(x.k==6)=false/\(x.k==7)=true):=by
  rcases hk with hk|hk|hk
  { exact .inl (by simpa using hk) }
  { exact .inr (.inl ⟨by simp [hk],by simpa using hk⟩) }
  { exact .inr (.inr ⟨by simp [hk],by simp [hk],by simpa using hk⟩) }
 clear hk
 rcases hd with hd| ⟨hd,hd1⟩| ⟨hd,hd1,hd2⟩
 all_goals
  go_enter Tryz.func194,Tryz.ntmps194;go_upto_region 7 with fail
  generalize w.alloc (.cells (aM x a n c) 99)=W1 at *;have hSS:ce W1.drew q.B 2=some (.slice m.g.a m.g.n m.g.c)/\ce W1.drew q.B 3=some (iV v.g.fu)/\ce W1.drew q.B 4=some (.bool v.g.up)/\ce W1.drew q.B 5=some (iV v.g.t.r.v)/\ce W1.drew q.B 6=some (.slice m.g.ak m.g.nk m.g.ck)/\ce W1.drew q.B 7=some (iV v.g.t.r.t)/\ce W1.drew q.B 8=some (iV v.g.t.ver)/\ce W1.drew q.B 9=some (.slice m.g.av m.g.nv m.g.cv)/\ce W1.drew q.B 10=some (.slice m.g.ad m.g.nd m.g.cd)/\ce W1.drew w.heap.size 0=some (iV x.k)/\ce W1.drew w.heap.size 1=some (iV x.u)/\ce W1.drew w.heap.size 2=some (iV x.n)/\ce W1.drew w.heap.size 3=some (iV x.at')/\ce W1.drew w.heap.size 4=some (iV x.im)/\ce W1.drew w.heap.size 5=some (.slice a n c)/\ce W1.drew w.heap.size 6=some (.bool x.y):=⟨x2,x3,x4,x5,x6,x7,x8,x9,x10,z0,z1,z2,z3,z4,z5,z6⟩;refine zlm 13 (fun W' =>ce W' q.B 2=some (.slice m.g.a m.g.n m.g.c)/\ce W' q.B 3=some (iV v.g.fu)/\ce W' q.B 4=some (.bool v.g.up)/\ce W' q.B 5=some (iV v.g.t.r.v)/\ce W' q.B 6=some (.slice m.g.ak m.g.nk m.g.ck)/\ce W' q.B 7=some (iV v.g.t.r.t)/\ce W' q.B 8=some (iV v.g.t.ver)/\ce W' q.B 9=some (.slice m.g.av m.g.nv m.g.cv)/\ce W' q.B 10=some (.slice m.g.ad m.g.nd m.g.cd)/\ce W' w.heap.size 0=some (iV x.k)/\ce W' w.heap.size 1=some (iV x.u)/\ce W' w.heap.size 2=some (iV x.n)/\ce W' w.heap.size 3=some (iV x.at')/\ce W' w.heap.size 4=some (iV x.im)/\ce W' w.heap.size 5=some (.slice a n c)/\ce W' w.heap.size 6=some (.bool x.y)) (by kernel_rfl) hSS ?_;intro _;refine Utk 0 ?_
  refine Utk 1 ?_
  refine Utk 2 ?_
  refine Utk 3 ?_
  try simp only [sq]
  refine zge (i:=4) (v:= ?_) (by simp only [KN,KM,KL];rfl) (by simp only [KN,KM,KL];rfl) (by kernel_rfl) (by exact fun _ _ _ h=>h) (Or.inl ⟨by rfl, ?_⟩) (by first|exact fun _=>hSS|exact fun h=>absurd h (by decide)) ?_;rotate_left
  {
  intro w hSw
  try dsimp only at hSw
  go_simp
  try with_reducible rfl }
  try simp only [sq]
  refine zge (i:=5) (v:= ?_) (by simp only [KN,KM,KL];rfl) (by simp only [KN,KM,KL];rfl) (by kernel_rfl) (by exact fun _ _ _ h=>h) (Or.inl ⟨by rfl, ?_⟩) (by first|exact fun _=>hSS|exact fun h=>absurd h (by decide)) ?_;rotate_left
  {
  intro w hSw
  try dsimp only at hSw
  go_simp
  try with_reducible rfl }
  try simp only [sq]
  refine ze5 (rs:= [6]) (by kernel_rfl) (by simp) ?_;refine(zgm (by rfl) (fun K hK=> ?_) U_nil);go_simp;have hbd:bZ W1 W1.drew:=(kS _ _).drew;refine(zae HC _ hbd).mono ?_;rintro e w3 ⟨⟨k3,a3,n3,c3,rfl,g3,e3,ms3,l3,cc3,fr3⟩,hb3⟩;unfold gtv;replace hbd:bZ W1 w3:=hbd.trans hb3;have H3:=H.o.bl hbd;replace b1:=uH (zab b1.o hbd);clear x2 x3 x4 x5 x6 x7 x8 x9 x10 z0 z1 z2 z3 z4 z5 z6 hSS;have x2:=zaa H3.box 2 (.slice m.g.a m.g.n m.g.c) rfl;have f2:cZ w3 q.B 2=false:=zad H3.box 2;have x3:=zaa H3.box 3 (iV v.g.fu) rfl;have f3:cZ w3 q.B 3=false:=zad H3.box 3;have x4:=zaa H3.box 4 (.bool v.g.up) rfl;have f4:cZ w3 q.B 4=false:=zad H3.box 4;have x5:=zaa H3.box 5 (iV v.g.t.r.v) rfl;have f5:cZ w3 q.B 5=false:=zad H3.box 5;have x6:=zaa H3.box 6 (.slice m.g.ak m.g.nk m.g.ck) rfl;have f6:cZ w3 q.B 6=false:=zad H3.box 6;have x7:=zaa H3.box 7 (iV v.g.t.r.t) rfl;have f7:cZ w3 q.B 7=false:=zad H3.box 7;have x8:=zaa H3.box 8 (iV v.g.t.ver) rfl;have f8:cZ w3 q.B 8=false:=zad H3.box 8;have x9:=zaa H3.box 9 (.slice m.g.av m.g.nv m.g.cv) rfl;have f9:cZ w3 q.B 9=false:=zad H3.box 9;have x10:=zaa H3.box 10 (.slice m.g.ad m.g.nd m.g.cd) rfl;have f10:cZ w3 q.B 10=false:=zad H3.box 10;obtain ⟨z0,z1,z2,z3,z4,z5,z6⟩:=cl7 b1.o;have HW:=uH (H.o.gate hbd g3 e3);have HMs:=uH ms3;have HB:=uH hbd;have hFB:=H.o.fB;have hBw:q.B<W1.drew.heap.size:=zak H.o.box;clear HC H3 g3 e3 hb3 hbd ms3 b1;generalize (gHear v.g x).1=g1 at *;generalize (gHear v.g x).2.1=l1 at *;generalize (gHear v.g x).2.2=r1 at *;refine hK.out _ _ (fun _=>⟨x2,x3,x4,x5,x6,x7,x8,x9,x10,z0,z1,z2,z3,z4,z5,z6⟩) (fun _=> ?_);clear hK K
  try simp only [sq]
  have hSS:ce w3 q.B 2=some (.slice m.g.a m.g.n m.g.c)/\ce w3 q.B 3=some (iV v.g.fu)/\ce w3 q.B 4=some (.bool v.g.up)/\ce w3 q.B 5=some (iV v.g.t.r.v)/\ce w3 q.B 6=some (.slice m.g.ak m.g.nk m.g.ck)/\ce w3 q.B 7=some (iV v.g.t.r.t)/\ce w3 q.B 8=some (iV v.g.t.ver)/\ce w3 q.B 9=some (.slice m.g.av m.g.nv m.g.cv)/\ce w3 q.B 10=some (.slice m.g.ad m.g.nd m.g.cd)/\ce w3 w.heap.size 0=some (iV x.k)/\ce w3 w.heap.size 1=some (iV x.u)/\ce w3 w.heap.size 2=some (iV x.n)/\ce w3 w.heap.size 3=some (iV x.at')/\ce w3 w.heap.size 4=some (iV x.im)/\ce w3 w.heap.size 5=some (.slice a n c)/\ce w3 w.heap.size 6=some (.bool x.y):=⟨x2,x3,x4,x5,x6,x7,x8,x9,x10,z0,z1,z2,z3,z4,z5,z6⟩;refine Utk 7 ?_
  refine Utk 8 ?_
  refine Utk 9 ?_
  refine Utk 10 ?_
  refine Utk 11 ?_
  refine Utk 12 ?_
  try simp only [sq]
  refine ze5 (rs:= [13]) (by kernel_rfl) (by simp) ?_;refine(zgm (by rfl) (fun K hK=> ?_) U_nil);go_simp;refine hK.out _ _ (fun h=>absurd h (by decide)) (fun _=> ?_);clear hK K
  try simp only [sq]
  clear hSS;refine Utk 14 ?_
  refine Utk 15 ?_
  try simp only [sq]
  refine U_done (by kernel_rfl) ?_ _;go_wp2_with fail;refine kT (v:=.tuple #[.slice a3 n3 c3,iV r1]) (by simp [results,Tryz.results194,go_sem]) rfl ?_;have hlt:F<=w3.heap.size:=kc (kc HF.o hb1.size) HB.o.size;have hfin:HrAns w F Z q m (⟨v.ss,v.sg,g1,v.us,v.cs,v.net,v.now⟩,l1,r1) (.returned (.tuple #[.slice a3 n3 c3,iV r1])) (puts w3 q.B 2 (gtL g1 k3)):=
   ⟨⟨a3,n3,c3,rfl,HMs.o.chg (zbn _ _ _ _) (fun ad e hB=>by have:=fr3 ad e;have hx:ad.block=q.B:=hB;have:=hBw;simp at this;omega),l3,cc3,fun _=>⟨_,HW.o,rfl,rfl⟩⟩,(hb1.mono HF.o).trans ((HB.o.mono (kc HF.o hb1.size)).trans (zbd _ hFB hlt))⟩
  exact hfin
end
section
attribute [local go_sem ↓] kM kO
theorem msgs_off (h:VOwn w F Z q m v) {u:Un} (hk:v.us[k]?=some u) (hm:za9 w a l):l= []\/∀ad,a=some ad->¬ad.block=q.bu:=by
 rcases hm with hm| ⟨b,rfl,hc⟩
 { exact .inl hm }
 {
 cases l with
 |nil=>exact .inl rfl
 |cons x r=>
  refine .inr fun ad e=> ?_
  cases e;intro hb;have hb:b=q.bu:=hb;obtain ⟨-,h1,-⟩:=hc 0 x rfl;have h0:0<v.us.length:=by have:=(kY.1 hk).1;omega
  obtain ⟨y,n,c,-,y0,-⟩:=h.unitAt (kX h0);rw [hb] at h1;simp only [Nat.zero_mul] at h1 y0;cases h1.symm.trans y0 }
theorem hear_unit (F:Nat) (Z:Nat->Prop) (q:VB) (m:VA) (v:Vh) (x:Ms) (a:oA) (n c:Nat) (j:Nat) (u:Un) (w:World) (h:VOwn w F Z q m v) (hg:VBig m) (hZ: ∀b,Z b->Sx w b) (hj:x.u= (j:Int)) (hu:v.us[j]?=some u) (hM:BI w a n x.ws) (hT: ∀W,Below F w W->Tab W)
 (hk3: (x.k==3)=false) (hk6: (x.k==6)=false) (hk7: (x.k==7)=false):
 Cq 194 #[.pointer (some ⟨q.B,0,none⟩),msv x a n c] w (HrAns w F Z q m (⟨v.ss,v.sg,v.g,v.us.set j (hearA v.ss u x).1,v.cs,v.net,v.now⟩,(hearA v.ss u x).2.1,(hearA v.ss u x).2.2)):=by
 have hb1:bZ w (w.alloc (.cells (aM x a n c) 99)):=bA1;have b1:=uH (kP w (.cells (aM x a n c) 99));have HF:=uH h.lt;have H:=uH (h.bl hb1);have HZ:Hd (∀b,Z b->Sx (w.alloc (.cells (aM x a n c) 99)) b):=fun b e=>kw (hZ b e) hb1.size
 obtain ⟨ax,nx,cx,q0,y0,y1,y2,y3,y4⟩:=H.o.unitAt hu;have HC:=uH (fun W (hW:Below (w.alloc (.cells (aM x a n c) 99)).heap.size (w.alloc (.cells (aM x a n c) 99)) W)=>zwg m.ab m.nb m.cb v.ss u ax nx cx x a n c W (H.o.ss.bl hW) (hT W ((hb1.mono HF.o).trans (hW.mono (kc HF.o hb1.size)))) (q0.bl hW) ((hM.bl hb1).bl hW));unfold bookv unv msv at HC;have x11: ce (w.alloc (.cells (aM x a n c) 99)) q.B 11=some (.slice m.au m.nu m.cu):=zaa H.o.box 11 _ rfl;rw [H.o.us.at_] at x11;have x0: ce (w.alloc (.cells (aM x a n c) 99)) q.B 0=some (.slice m.ab m.nb m.cb):=zaa H.o.box 0 _ rfl;obtain ⟨z0,z1,z2,z3,z4,z5,z6⟩:=cl7 b1.o;have hnl:=H.o.us.len;have hjl:=(kY.1 hu).1;have hjI: (j:Int)< (m.nu:Int):=by omega
 have HU:=uH hu;have HG:=uH hg;clear h hnl hjl hu hg hM hT hZ q0;unfold msv;have z1' : ce (w.alloc (.cells (aM x a n c) 99)) w.heap.size 1=some (iV (j:Int)):=by rw [<-hj];exact z1
 have HJ:=uH hj;clear hj;go_enter Tryz.func194,Tryz.ntmps194;go_upto_region 2 with fail
 generalize w.alloc (.cells (aM x a n c) 99)=W1 at *;refine km (S:=fun W' =>ce W' q.B 11=some (sV q.bu m.nu m.cu)/\ce W' w.heap.size 1=some (iV j)) (by kernel_rfl) ⟨x11,z1'⟩ ?_;intro hHeld;refine Htk 0 ?_
 refine Htk 1 ?_
 refine Htk 2 ?_
 refine Htk 3 ?_
 refine Htk 4 ?_
 refine Htk 5 ?_
 refine Htk 6 ?_
 refine Htk 7 ?_
 try simp only [sq]
 refine KE (by kernel_rfl) ?_ _;go_upto_region 3 with fail
 clear x11 z1';have hbd:bZ W1 W1.drew:=(kS _ _).drew;generalize W1.drew=X at *;have hX0:=hbd.size;have HY:=uH (And.intro y0 (And.intro y1 (And.intro y2 (And.intro y3 y4))));replace x0:=(hbd.cell (zah x0)).trans x0;replace y0:=(hbd.cell (zah y0)).trans y0;replace y1:=(hbd.cell (zah y1)).trans y1;replace y2:=(hbd.cell (zah y2)).trans y2;replace y3:=(hbd.cell (zah y3)).trans y3;replace y4:=(hbd.cell (zah y4)).trans y4;replace z0:=(hbd.cell (zah z0)).trans z0;replace z1:=(hbd.cell (zah z1)).trans z1;replace z2:=(hbd.cell (zah z2)).trans z2;replace z3:=(hbd.cell (zah z3)).trans z3;replace z4:=(hbd.cell (zah z4)).trans z4;replace z5:=(hbd.cell (zah z5)).trans z5;replace z6:=(hbd.cell (zah z6)).trans z6;have hbe:bZ W1 X.drew:=hbd.drew;have hSS:ce X.drew q.B 0=some (.slice m.ab m.nb m.cb)/\ce X.drew q.bu (j * 5)=some (.slice ax nx cx)/\ce X.drew q.bu (j * 5+1)=some (iV u.fu)/\ce X.drew q.bu (j * 5+2)=some (.bool u.up)/\ce X.drew q.bu (j * 5+3)=some (iV u.n)/\ce X.drew q.bu (j * 5+4)=some (iV u.hv)/\ce X.drew w.heap.size 0=some (iV x.k)/\ce X.drew w.heap.size 1=some (iV x.u)/\ce X.drew w.heap.size 2=some (iV x.n)/\ce X.drew w.heap.size 3=some (iV x.at')/\ce X.drew w.heap.size 4=some (iV x.im)/\ce X.drew w.heap.size 5=some (.slice a n c)/\ce X.drew w.heap.size 6=some (.bool x.y):=⟨x0,y0,y1,y2,y3,y4,z0,z1,z2,z3,z4,z5,z6⟩;refine zlm 15 (fun W' =>ce W' q.B 0=some (.slice m.ab m.nb m.cb)/\ce W' q.bu (j * 5)=some (.slice ax nx cx)/\ce W' q.bu (j * 5+1)=some (iV u.fu)/\ce W' q.bu (j * 5+2)=some (.bool u.up)/\ce W' q.bu (j * 5+3)=some (iV u.n)/\ce W' q.bu (j * 5+4)=some (iV u.hv)/\ce W' w.heap.size 0=some (iV x.k)/\ce W' w.heap.size 1=some (iV x.u)/\ce W' w.heap.size 2=some (iV x.n)/\ce W' w.heap.size 3=some (iV x.at')/\ce W' w.heap.size 4=some (iV x.im)/\ce W' w.heap.size 5=some (.slice a n c)/\ce W' w.heap.size 6=some (.bool x.y)) (by kernel_rfl) hSS ?_;intro _;refine Utk 0 ?_
 refine Utk 1 ?_
 refine Utk 2 ?_
 refine Utk 3 ?_
 try simp only [sq]
 refine zge (i:=4) (v:= ?_) (by simp only [KN,KM,KL];rfl) (by simp only [KN,KM,KL];rfl) (by kernel_rfl) (by exact fun _ _ _ h=>h) (Or.inl ⟨by rfl, ?_⟩) (by first|exact fun _=>hSS|exact fun h=>absurd h (by decide)) ?_;rotate_left
 {
 intro w hSw
 try dsimp only at hSw
 go_simp
 try with_reducible rfl }
 refine Utk 5 ?_
 refine Utk 6 ?_
 try simp only [sq]
 refine zge (i:=7) (v:= ?_) (by simp only [KN,KM,KL];rfl) (by simp only [KN,KM,KL];rfl) (by kernel_rfl) (by exact fun _ _ _ h=>h) (Or.inl ⟨by rfl, ?_⟩) (by first|exact fun _=>hSS|exact fun h=>absurd h (by decide)) ?_;rotate_left
 {
 intro w hSw
 try dsimp only at hSw
 go_simp
 try with_reducible rfl }
 try simp only [sq]
 refine zge (i:=8) (v:= ?_) (by simp only [KN,KM,KL];rfl) (by simp only [KN,KM,KL];rfl) (by kernel_rfl) (by exact fun _ _ _ h=>h) (Or.inl ⟨by rfl, ?_⟩) (by first|exact fun _=>hSS|exact fun h=>absurd h (by decide)) ?_;rotate_left
 {
 intro w hSw
 try dsimp only at hSw
 go_simp
 try with_reducible rfl }
 try simp only [sq]
 refine ze5 (rs:= [9]) (by kernel_rfl) (by simp) ?_;refine(zgm (by rfl) (fun K hK=> ?_) U_nil);go_simp;refine(zae HC _ hbe).mono ?_;rintro e w3 ⟨⟨a3,n3,c3,am,nm,cm,rfl,bw3,ms3,l3,cc3,-,fr3⟩,hb3⟩;have HFr:=uH (zal.mono fr3 hbe.size);clear fr3;unfold unv;replace hbe:bZ W1 w3:=bT hbe hb3;have H3:=H.o.bl hbe;replace b1:=uH (zab b1.o hbe);have hoff:=msgs_off H3 HU.o ms3;clear x0 y0 y1 y2 y3 y4 z0 z1 z2 z3 z4 z5 z6 hSS hbd hX0;have x0:=zaa H3.box 0 (.slice m.ab m.nb m.cb) rfl;obtain ⟨y0,y1,y2,y3,y4⟩:=HY.o;replace y0:=(hbe.cell (zah y0)).trans y0;replace y1:=(hbe.cell (zah y1)).trans y1;replace y2:=(hbe.cell (zah y2)).trans y2;replace y3:=(hbe.cell (zah y3)).trans y3;replace y4:=(hbe.cell (zah y4)).trans y4;have f0:=H3.unitFree (j * 5);have f1:=H3.unitFree (j * 5+1);have f2:=H3.unitFree (j * 5+2);have f3:=H3.unitFree (j * 5+3);have f4:=H3.unitFree (j * 5+4);obtain ⟨z0,z1,z2,z3,z4,z5,z6⟩:=cl7 b1.o;have HW:=uH (H.o.unit hbe HG.o HZ.o HU.o bw3 HFr.o);have HMs:=uH ms3;have HB:=uH hbe;have hFB:=H.o.us.lt.1;clear HC H3 bw3 hb3 hbe ms3 b1;generalize (hearA v.ss u x).1=u1 at *;generalize (hearA v.ss u x).2.1=l1 at *;generalize (hearA v.ss u x).2.2=r1 at *;refine hK.out _ _ (fun _=>⟨x0,y0,y1,y2,y3,y4,z0,z1,z2,z3,z4,z5,z6⟩) (fun _=> ?_);clear hK K
 try simp only [sq]
 have hSS:ce w3 q.B 0=some (.slice m.ab m.nb m.cb)/\ce w3 q.bu (j * 5)=some (.slice ax nx cx)/\ce w3 q.bu (j * 5+1)=some (iV u.fu)/\ce w3 q.bu (j * 5+2)=some (.bool u.up)/\ce w3 q.bu (j * 5+3)=some (iV u.n)/\ce w3 q.bu (j * 5+4)=some (iV u.hv)/\ce w3 w.heap.size 0=some (iV x.k)/\ce w3 w.heap.size 1=some (iV x.u)/\ce w3 w.heap.size 2=some (iV x.n)/\ce w3 w.heap.size 3=some (iV x.at')/\ce w3 w.heap.size 4=some (iV x.im)/\ce w3 w.heap.size 5=some (.slice a n c)/\ce w3 w.heap.size 6=some (.bool x.y):=⟨x0,y0,y1,y2,y3,y4,z0,z1,z2,z3,z4,z5,z6⟩;refine Utk 10 ?_
 refine Utk 11 ?_
 refine Utk 12 ?_
 refine Utk 13 ?_
 refine Utk 14 ?_
 try simp only [sq]
 refine ze5 (rs:= [15]) (by kernel_rfl) (by simp) ?_;refine(zgm (by rfl) (fun K hK=> ?_) U_nil);go_simp;refine hK.out _ _ (fun h=>absurd h (by decide)) (fun _=> ?_);clear hK K
 try simp only [sq]
 clear hSS;refine Utk 16 ?_
 refine Utk 17 ?_
 try simp only [sq]
 refine U_done (by kernel_rfl) ?_ _;go_wp2_with fail;refine kT (v:=.tuple #[.slice am nm cm,iV r1]) (by simp [results,Tryz.results194,go_sem]) rfl ?_;have hlt:F<=w3.heap.size:=kc (kc HF.o hb1.size) HB.o.size;have hms:za9 (puts w3 q.bu (j * 5) (unL u1 a3 n3 c3)) am l1:=by
  rcases hoff with hoff|hoff
  { exact .inl hoff }
  { exact HMs.o.chg (zbn _ _ _ _) hoff }
 have hfin:HrAns w F Z q m (⟨v.ss,v.sg,v.g,v.us.set j u1,v.cs,v.net,v.now⟩,l1,r1) (.returned (.tuple #[.slice am nm cm,iV r1])) (puts w3 q.bu (j * 5) (unL u1 a3 n3 c3)):=
  ⟨⟨am,nm,cm,rfl,hms,l3,cc3,fun _=>⟨_,HW.o,rfl,rfl⟩⟩,(hb1.mono HF.o).trans ((HB.o.mono (kc HF.o hb1.size)).trans (zbd _ hFB hlt))⟩
 exact hfin
end
section
attribute [local go_sem ↓] kM kO
structure VOk (w:World) (F:Nat) (Z:Nat->Prop) (m:VA) (v:Vh):Prop where
 big:VBig m
 nn:m.nn<=24
 uns:unsE v.us v.g.vo.length=0
 net:netE v.us.length v.net=0
 zs: ∀b,Z b->Sx w b
 zf: ∀b,Z b->b<F
 tab: ∀W,Below F w W->Tab W
theorem zhn {units:Nat} (h:netE units l=0) (hx:x∈l):msE x=0/\x.u< (units:Int):=by
 have: ∀(l:List Ms),za0 (l.map (ntE units))=0->∀x∈l,ntE units x=0:=by
  intro l
  induction l with
  |nil=>intro _ x hx;cases hx
  |cons y r ih=>
   intro h0 x hx;simp only [List.map_cons,za0] at h0
   by_cases hy:ntE units y=0
   {
   rw [KJ (by simpa using hy)] at h0
   rcases kt.1 hx with e|e
   { rw [e];exact hy }
   { exact ih h0 x e } }
   { rw [KK hy] at h0;exact absurd h0 hy }
 have hn:=this l h x hx;unfold ntE at hn
 split at hn
 { rename_i h1;exact absurd hn h1 }
 {
 rename_i h1
 split at hn
 { cases hn }
 {
 rename_i h2
 exact⟨ky h1,by omega⟩ } }
theorem zic (h:msE x=0):0<=x.u/\x.ws.length<=8:=by
 unfold msE at h
 split at h
 {
 rename_i h1
 unfold msB inB at h1
 simp at h1
 omega }
 { cases h }
def comR (v:Vh) (x:Ms):Vh×List Ms×Int:=
 if x.k=3\/x.k=6\/x.k=7 then(⟨v.ss,v.sg,(gHear v.g x).1,v.us,v.cs,v.net,v.now⟩,(gHear v.g x).2.1,(gHear v.g x).2.2)
 else(⟨v.ss,v.sg,v.g,v.us.set x.u.toNat (hearA v.ss (v.us.getD x.u.toNat un9) x).1,v.cs,v.net,v.now⟩,(hearA v.ss (v.us.getD x.u.toNat un9) x).2.1,(hearA v.ss (v.us.getD x.u.toNat un9) x).2.2)
theorem com_e (h: (comR v x).2.2≠0): (comeS v x).2= (comR v x).2.2:=by
 unfold comR at h|-;unfold comeS
 split at h
 { rename_i hk;rw [KK hk,KK hk,KK h] }
 { rename_i hk;rw [KJ hk,KJ hk,KK h] }
theorem com_0 (h: (comR v x).2.2=0):comeS v x= (⟨(comR v x).1.ss,(comR v x).1.sg,(comR v x).1.g,(comR v x).1.us,(comR v x).1.cs,sendS (comR v x).1.net (comR v x).2.1,(comR v x).1.now⟩,0):=by
 unfold comR at h|-;unfold comeS
 split at h
 { rename_i hk;rw [KK hk,KK hk,KJ (by simpa using h)] }
 { rename_i hk;rw [KJ hk,KJ hk,KJ (by simpa using h)] }
theorem hear_any' (F:Nat) (Z:Nat->Prop) (q:VB) (m:VA) (v:Vh) (x:Ms) (a:oA) (n c:Nat) (w:World) (h:VOwn w F Z q m v) (hg:VBig m) (hZ: ∀b,Z b->Sx w b) (_:unsE v.us v.g.vo.length=0) (hx0:0<=x.u) (hx1:x.u< (v.us.length:Int)) (hM:BI w a n x.ws) (hT: ∀W,Below F w W->Tab W):
 Cq 194 #[.pointer (some ⟨q.B,0,none⟩),msv x a n c] w (HrAns w F Z q m (comR v x)):=by
 by_cases hk:x.k=3\/x.k=6\/x.k=7
 {
 unfold comR;rw [KK hk];exact hear_gate F Z q m v x a n c w h hk }
 {
 unfold comR;rw [KJ hk];have hj:x.u.toNat<v.us.length:=by omega
 have hku:v.us[x.u.toNat]?=some v.us[x.u.toNat]:=kX hj;rw [show v.us.getD x.u.toNat un9=v.us[x.u.toNat] by simp [hj]];exact hear_unit F Z q m v x a n c x.u.toNat _ w h hg hZ (by omega) hku hM hT (by simp;intro e;exact hk (.inl e)) (by simp;intro e;exact hk (.inr (.inl e))) (by simp;intro e;exact hk (.inr (.inr e))) }
theorem zqd (F:Nat) (Z:Nat->Prop) (q:VB) (m:VA) (v:Vh) (k:Int) (w:World) (h:VOwn w F Z q m v) (ok:VOk w F Z m v):
 Cq 126 #[.pointer (some ⟨q.B,0,none⟩),iV k] w (HV w F Z q.B (arrS v k)):=by
 cases hk:isM v k
 {
 have HE:Hd (arrS v k= (vh0,5)):=by unfold arrS;rw [KK hk];exact rfl
 have HN:=uH (take_no F Z q m v k w h hk);have hlt:=h.lt;clear hk h ok;unfold msv ms9 at HN;go_enter Tryz.func126,Tryz.ntmps126;go_wp2_with fail;refine(zae HN).mono ?_;rintro e w1 ⟨rfl,hb⟩;have hb2:bZ w (w1.alloc (.cells #[iV 0,iV 0,iV 0,iV 0,iV 0,nV,.bool false] 99)):=hb.alloc hb.size _;go_wp2_with fail;go_ret;exact zbs (by rw [HE.o]) (by decide) (hb2.mono hlt) }
 obtain ⟨j,rfl⟩: ∃j:Nat,k= (j:Int):=⟨k.toNat,by unfold isM inB at hk;simp at hk;omega⟩;have hj:j<v.net.length:=by unfold isM inB at hk;simp at hk;omega
 have hku:v.net[j]?=some v.net[j]:=kX hj;obtain ⟨hms,hxu⟩:=zhn ok.net (KH hj);obtain ⟨hx0,-⟩:=zic hms;have HR:Hd (arrS v j=comeS (takeM v j) v.net[j]):=by
  unfold arrS;rw [KJ (by rw [hk];decide)];simp only [kp];rw [show v.net.getD j ms9=v.net[j] by simp [hj]];exact rfl
 have HN:=uH (znt F Z q m v j _ w h hku (by have:=ok.big.2.2;omega));have HO:=uH ok;have hFB:=h.fB;clear hk h ok hku hms;generalize v.net[j]=x at *;clear hj;go_enter Tryz.func126,Tryz.ntmps126;go_wp2_with fail;refine(zae HN).mono ?_;rintro e w1 ⟨⟨a,n,c,rfl,bi,-⟩,H1,hb⟩;unfold msv;have hb1:bZ w1 (w1.alloc (.cells (aM x a n c) 99)):=bA1;have b1:=uH (kP w1 (.cells (aM x a n c) 99));have H2:=uH (H1.bl hb1);have hb2:Below F w (w1.alloc (.cells (aM x a n c) 99)):=hb.trans (hb1.mono H1.lt);have HC:=uH (hear_any' F Z q _ (takeM v j) x a n c _ H2.o HO.o.big (fun b e=>kw (HO.o.zs b e) hb2.size) HO.o.uns hx0 hxu (bi.bl hb1) (fun W hW=>HO.o.tab W (hb2.trans hW)));unfold msv at HC;obtain ⟨z0,z1,z2,z3,z4,z5,z6⟩:=cl7 b1.o;have HB2:=uH hb2;have hn24:m.nn - 1<=24:=by have:=HO.o.nn;omega
 clear HN bi H1 hb hb1 b1 hb2 HO hxu hx0;go_upto_region 4 with fail
 generalize w1.alloc (.cells (aM x a n c) 99)=W2 at *;go_wp2_with fail;refine(zae HC).mono ?_;rintro e w3 ⟨⟨a3,n3,c3,rfl,ms3,l3,cc3,hv3⟩,hb3⟩;clear z0 z1 z2 z3 z4 z5 z6 HC;have HE:=uH (com_e (v:=takeM v j) (x:=x));have H0:=uH (com_0 (v:=takeM v j) (x:=x));have HB3:=uH (HB2.o.trans hb3);generalize comR (takeM v j) x=r at *
 by_cases hz:r.2.2=0
 rotate_left
 {
 have d: (r.2.2 !=0)=true:=by simpa using hz
 have HEr:=uH ((congrArg Prod.snd HR.o).trans (HE.o hz));have HZ:=uH hz;clear hz hv3;generalize r.2.2=y at *;go_wp2_with fail;go_ret;exact zbs HEr.o HZ.o HB3.o }
 have d: (r.2.2 !=0)=false:=by simpa using hz
 obtain ⟨m3,H3,e1,e2⟩:=hv3 hz;have HEr:=uH (HR.o.trans (H0.o hz));obtain ⟨mv,hr3,hv3⟩:=msgs_vs ms3 (KV Z q);have HS:=uH (zgs F Z q m3 r.1 a3 n3 c3 r.2.1 mv w3 H3 (by rw [e1];exact hn24) hr3 hv3 l3 cc3);clear hz ms3 hr3 hv3 e1 e2 HE H0 l3 cc3;generalize r.2.2=y at *;go_wp2_with fail;refine(zae HS).mono ?_;rintro e w4 ⟨rfl,hs4⟩;go_wp2_with fail;go_ret;exact zif HEr.o hs4 HB3.o
end
section
attribute [local go_sem ↓] kM kO
theorem zja {w' :World} {m:CA} {x:Cp} (h:CI w K m x) (hb:bZ w w'):CI w' K m x:=by
 obtain ⟨vs,r1,r2,r3⟩:=h.row;exact⟨h.ts.bl hb,h.ot,h.ims.bl hb,⟨vs,r1.bl hb,r2.mono (LR.chg (.of hb K)),r3⟩⟩
theorem zii (x:Cp) (m:CA) (K:Nat->Prop) (i:Nat) (units:Nat) (w:World) (h:CI w K m x):
 Cq 147 #[cpv x.n x.v x.u m,iV ((i:Int)+1),iV units] w fun e w' =>e=.returned (iV (cpE units i x))/\bZ w w' :=by
 have hni:=h.ims.len;have hnt:=h.ts.len;have hw:bZ w (w.alloc (.cells (aC x m) 94)):=bA1;have b0:=uH (kP w (.cells (aC x m) 94));have x0:=zaa b0.o 0 _ rfl;have x3:=zaa b0.o 3 _ rfl;have x4:=zaa b0.o 4 _ rfl;have hmi:=h.ims.max;have HH:=uH h;clear h;unfold cpv
 by_cases z0:x.n= (i:Int)+1
 rotate_left
 {
 have HE:Hd (cpE units i x=4):=by unfold cpE;rw [KK (.inl z0)];exact rfl
 have d: (x.n != (i:Int)+1)=true:=by simpa using z0
 clear z0 hni hnt;go_enter Tryz.func147,Tryz.ntmps147;go_wp2_with fail;go_ret;exact⟨zao HE.o.symm,hw⟩ }
 have d0: (x.n != (i:Int)+1)=false:=by simpa using z0
 have Z0:=uH z0;clear z0
 by_cases z1:m.ni=units
 rotate_left
 {
 have HE:Hd (cpE units i x=4):=by unfold cpE;rw [KK (.inr (.inl (by rw [hni];exact z1)))];exact rfl
 have d: ((m.ni:Int) != (units:Int))=true:=by simp;omega
 clear z1 hni hnt;go_enter Tryz.func147,Tryz.ntmps147;go_wp2_with fail;go_ret;exact⟨zao HE.o.symm,hw⟩ }
 have d1: ((m.ni:Int) != (units:Int))=false:=by simp;omega
 have Z1:=uH z1;clear z1
 by_cases z2:m.nt=units
 rotate_left
 {
 have HE:Hd (cpE units i x=4):=by unfold cpE;rw [KK (.inr (.inr (by rw [hnt];exact z2)))];exact rfl
 have d: ((m.nt:Int) != (units:Int))=true:=by simp;omega
 clear z2 hni hnt;go_enter Tryz.func147,Tryz.ntmps147;go_wp2_with fail;go_ret;exact⟨zao HE.o.symm,hw⟩ }
 have d2: ((m.nt:Int) != (units:Int))=false:=by simp;omega
 have HQ:Hd (cpE units i x=if za0 (x.ims.map imgE)≠0 then za0 (x.ims.map imgE) else relE x.v x.u x.ts):=by
  unfold cpE;rw [KJ (by rintro (h|h|h);exact h Z0.o;exact h (by rw [hni];exact Z1.o);exact h (by rw [hnt];exact z2))];exact rfl
 have HN:=uH hni;clear z2 Z0 Z1 hni hnt;have hnI: (m.ni:Int)<=9223372036854775807:=by unfold maxLen at hmi;omega
 go_enter Tryz.func147,Tryz.ntmps147;go_wp2_with fail;generalize w.alloc (.cells (aC x m) 94)=W0 at *;clear d0 d1 d2 x0 x3 x4
 go_loopw [32] (fun i wq=>∃k:Nat,k<=m.ni/\i=iV k/\Hd (bZ W0 wq)/\Hd (∀j,j<k->(x.ims.map imgE).getD j 0=0)) (fun i _=>m.ni - (intOf i).toNat)
 case atStart=>exact⟨0,by omega,rfl,kS _ _,fun j hj=>absurd hj (by omega)⟩
 case round=>
  obtain ⟨wq,rfl⟩: ∃wq:World,wq=wr:=⟨_,rfl⟩;obtain ⟨k,hk,rfl,hB,hZ⟩:=hrel
  by_cases hkn:k<m.ni
  {
  have hkI: (k:Int)< (m.ni:Int):=by omega
  have hul:k<x.ims.length:=by rw [HN.o];exact hkn
  obtain ⟨b,off,ax,cx,hax,y0,q0,qc,qm⟩:=zfd HH.o.ims.at_ k hul;have HU:=uH (fun W (hW:bZ w W)=>zd9 ax x.ims[k].length cx x.ims[k] W (q0.bl hW) rfl (kc qc qm));have HM:Hd ((x.ims.map imgE)[k]?=some (imgE x.ims[k])):=by show _=_;simp [hul]
  generalize x.ims[k]=u at *;rw [hax];have hwq:=bT hw hB.o;replace y0:=(hwq.cell (zah y0)).trans y0;clear q0 hul hax;go_wp2_with fail;refine(zae HU _ hwq).mono ?_;rintro e w3 ⟨rfl,hw3⟩;have hb3:bZ wq w3:=by rw [hw3];exact kS _ _
  clear hw3;have HB3:=uH (bT hB.o hb3);clear hb3 HU
  by_cases hq:imgE u=0
  rotate_left
  {
  have d: (imgE u !=0)=true:=by simpa using hq
  have HE:=uH (HQ.o.trans (by rw [zch _ k _ hZ.o HM.o hq,KK hq]));clear hq;go_wp2_with fail;go_ret;exact⟨zao HE.o.symm,(bT hw HB3.o)⟩ }
  have d: (imgE u !=0)=false:=by simpa using hq
  have HQ0:=uH hq;clear hq;go_wp2_with fail;exact⟨⟨k+1,hkn,by simp,HB3,zdn hZ.o HM.o HQ0.o⟩,by simp [intOf];omega⟩ }
  {
  have hkk:k=m.ni:=by omega
  have HE:Hd (cpE units i x=relE x.v x.u x.ts):=HQ.o.trans (by rw [zc4 _ (by rw [Kr,HN.o,<-hkk];exact hZ.o),KJ (by simp)]);have hwq:=bT hw hB.o;have HR:=uH (zff x.v x.u m.at_ m.nt m.ct x.ts wq (HH.o.ts.bl hwq).at_ HH.o.ts.len HH.o.ts.max);unfold relv at HR;have bq:=uH (zab b0.o hB.o);have x1:=zaa bq.o 1 _ rfl;have x2:=zaa bq.o 2 _ rfl;have x3:=zaa bq.o 3 _ rfl;subst hkk;clear hk hkn;go_wp2_with fail;refine(zae HR).mono ?_;rintro e w3 ⟨rfl,hb3⟩;go_wp2_with fail;go_ret;exact⟨zao HE.o.symm,(bT hwq hb3)⟩ }
theorem zh3 (a:oA) (n c:Nat) (K:Nat->Prop) (l:List Cp) (units:Nat) (w:World) (h:RIn CR w K a n c l):
 Cq 67 #[.slice a n c,iV units] w fun e w' =>e=.returned (iV (cpsE units l))/\bZ w w' :=by
 have hn:=h.len;have HQ:Hd (cpsE units l=za0 (l.mapIdx (cpE units))):=rfl;obtain ⟨vs,h1,h2,-⟩:=h.row;have hmx:=h.max;clear h;have H1:=uH h1;have H2:=uH h2;have HN:=uH hn;clear h1 h2 hn;have hnI: (n:Int)<=9223372036854775807:=by unfold maxLen at hmx;omega
 go_enter Tryz.func67,Tryz.ntmps67;go_wp2_with fail
 go_loopw [10] (fun i wq=>∃k:Nat,k<=n/\i=iV k/\Hd (bZ w wq)/\Hd (∀j,j<k->(l.mapIdx (cpE units)).getD j 0=0)) (fun i _=>n - (intOf i).toNat)
 case atStart=>exact⟨0,by omega,rfl,kS _ _,fun j hj=>absurd hj (by omega)⟩
 case round=>
  obtain ⟨wq,rfl⟩: ∃wq:World,wq=wr:=⟨_,rfl⟩;obtain ⟨k,hk,rfl,hB,hZ⟩:=hrel
  by_cases hkn:k<n
  {
  have hkI: (k:Int)< (n:Int):=by omega
  have hul:k<l.length:=by rw [HN.o];exact hkn
  obtain ⟨b,off,m,rfl,q0,y0,y1,y2,y3,y4⟩:=zfa H1.o H2.o (kX hul);have HU:=uH (fun W (hW:bZ w W)=>zii l[k] m K k units W (zja q0 hW));have HM:Hd ((l.mapIdx (cpE units))[k]?=some (cpE units k l[k])):=by show _=_;simp [hul]
  unfold cpv at HU;generalize l[k]=u at *;replace y0:=(hB.o.cell (zah y0)).trans y0;replace y1:=(hB.o.cell (zah y1)).trans y1;replace y2:=(hB.o.cell (zah y2)).trans y2;replace y3:=(hB.o.cell (zah y3)).trans y3;replace y4:=(hB.o.cell (zah y4)).trans y4;have hb1:bZ w (wq.alloc (.cells (aC u m) 94)):=hB.o.alloc hB.o.size _;clear q0 hul;go_wp2_with fail;refine(zae HU _ hb1).mono ?_;rintro e w3 ⟨rfl,hb3⟩;have HB3:=uH (bT hb1 hb3);clear hb3 HU
  by_cases hq:cpE units k u=0
  rotate_left
  {
  have d: (cpE units k u !=0)=true:=by simpa using hq
  have HE:=uH (HQ.o.trans (zch _ k _ hZ.o HM.o hq));clear hq;go_wp2_with fail;go_ret;exact⟨zao HE.o.symm,HB3.o⟩ }
  have d: (cpE units k u !=0)=false:=by simpa using hq
  have HQ0:=uH hq;clear hq;go_wp2_with fail;exact⟨⟨k+1,hkn,by simp,HB3,zdn hZ.o HM.o HQ0.o⟩,by simp [intOf];omega⟩ }
  {
  have hkk:k=n:=by omega
  subst hkk;clear hk hkn;go_wp2_with fail;go_ret;exact⟨zao (HQ.o.trans (zc4 _ (by rw [List.length_mapIdx,HN.o];exact hZ.o))).symm,hB.o⟩ }
end
section
attribute [local go_sem ↓] kM kO
theorem VOwn.campAt (h:VOwn w F Z q m v) {x:Cp} (hk:v.cs[k]?=some x): ∃mc,CI w (KV Z q) mc x/\(ce w q.bc (k * 5)=some (iV x.n)/\ce w q.bc (k * 5+1)=some (iV x.v)/\ce w q.bc (k * 5+2)=some (iV x.u)/\ce w q.bc (k * 5+3)=some (.slice mc.at_ mc.nt mc.ct)/\ce w q.bc (k * 5+4)=some (.slice mc.ai mc.ni mc.ci)):=by
 obtain ⟨vs,-,h1,h2⟩:=h.cs.isRow;obtain ⟨b,off,mc,e,h3,y0,y1,y2,y3,y4⟩:=zfa h1 h2 hk;rw [h.cs.at_] at e;cases e;simp only [Kl] at y0 y1 y2 y3 y4;exact⟨mc,h3,y0,y1,y2,y3,y4⟩
theorem gNext_n {s:Gs} {r:LI} (h:0<=s.n/\s.n<=8):0<=(gNext s r).n/\(gNext s r).n<=8:=by
 unfold gNext
 split
 {
 rename_i h1
 unfold isBeg inB at h1
 simp at h1
 show 0<=r.getD 1 0/\r.getD 1 0<=8
 rw [ka];omega }
 {
 split
 {
 unfold trnG
 split
 { exact h }
 {
 split
 { exact h }
 { split<;>exact h } } }
 { exact h } }
theorem gOf_n (ws:LI):0<=(gOf ws).n/\(gOf ws).n<=8:=by
 have: ∀(rs:LL) (s:Gs),(0<=s.n/\s.n<=8)->0<=(rs.foldl gNext s).n/\(rs.foldl gNext s).n<=8:=by
  intro rs
  induction rs with
  |nil=>intro s h;exact h
  |cons r t ih=>intro s h;exact ih _ (gNext_n h)
 exact this _ _ ⟨by decide,by decide⟩
def LcAns (w:World) (K:Nat->Prop) (r:Cp×Int) (e:Ending) (w' :World):Prop:=(∃mc:CA,e=.returned (.tuple #[cpv r.1.n r.1.v r.1.u mc,iV r.2])/\CI w' K mc r.1)/\bZ w w'
theorem ci9 (w:World) (K:Nat->Prop):CI w K ⟨none,0,0,none,0,0⟩ cp9:=⟨⟨.inl rfl,rfl,by decide⟩,.inl rfl,⟨.inl rfl,rfl,by decide⟩,⟨[],.inl rfl,rfl,.inl rfl⟩⟩
theorem lastC_any (F:Nat) (Z:Nat->Prop) (q:VB) (m:VA) (v:Vh) (w:World) (h:VOwn w F Z q m v) (hg:gtE v.g=0):
 Cq 191 #[.pointer (some ⟨q.B,0,none⟩)] w (LcAns w (KV Z q) (lastC v)):=by
 have hb1:bZ w (w.alloc (.cells aW 94)):=bA1;have b1:=uH (kP w (.cells aW 94));have hs1: (w.alloc (.cells aW 94)).heap.size=w.heap.size+1:=by simp
 have H:=uH h;have H1:=uH (h.bl hb1);have HC:=uH (zh0 v.g m.g _ H1.o.g);have hrd:zc3 v.g= (gOf v.g.ws,0):=by unfold zc3;rw [KJ (by simpa using hg)]
 rw [hrd] at HC;unfold gtv gsv at HC;have x2: ce (w.alloc (.cells aW 94)) q.B 2=some (.slice m.g.a m.g.n m.g.c):=zaa H1.o.box 2 _ rfl;have x3: ce (w.alloc (.cells aW 94)) q.B 3=some (iV v.g.fu):=zaa H1.o.box 3 _ rfl;have x4: ce (w.alloc (.cells aW 94)) q.B 4=some (.bool v.g.up):=zaa H1.o.box 4 _ rfl;have x5: ce (w.alloc (.cells aW 94)) q.B 5=some (iV v.g.t.r.v):=zaa H1.o.box 5 _ rfl;have x6: ce (w.alloc (.cells aW 94)) q.B 6=some (.slice m.g.ak m.g.nk m.g.ck):=zaa H1.o.box 6 _ rfl;have x7: ce (w.alloc (.cells aW 94)) q.B 7=some (iV v.g.t.r.t):=zaa H1.o.box 7 _ rfl;have x8: ce (w.alloc (.cells aW 94)) q.B 8=some (iV v.g.t.ver):=zaa H1.o.box 8 _ rfl;have x9: ce (w.alloc (.cells aW 94)) q.B 9=some (.slice m.g.av m.g.nv m.g.cv):=zaa H1.o.box 9 _ rfl;have x10: ce (w.alloc (.cells aW 94)) q.B 10=some (.slice m.g.ad m.g.nd m.g.cd):=zaa H1.o.box 10 _ rfl;have hBl:=zak h.box;have HL:Hd ((gOf v.g.ws).n=0->lastC v= (cp9,0)):=fun e=>by unfold lastC;rw [KK e]
 have HL2:Hd ((gOf v.g.ws).n≠0->(v.cs.length:Int)< (gOf v.g.ws).n->lastC v= (cp9,5)):=fun e e2=>by unfold lastC;rw [KJ e,KK e2]
 have HL3:Hd ((gOf v.g.ws).n≠0->¬(v.cs.length:Int)< (gOf v.g.ws).n->lastC v= (v.cs.getD ((gOf v.g.ws).n - 1).toNat cp9,0)):=fun e e2=>by unfold lastC;rw [KJ e,KJ e2]
 obtain ⟨hs0,hs8⟩:=gOf_n v.g.ws;clear h hrd hg;generalize gOf v.g.ws=s at *;go_enter Tryz.func191,Tryz.ntmps191;go_wp2_with fail;generalize w.alloc (.cells aW 94)=W1 at *;refine(zae HC).mono ?_;rintro e w2 ⟨rfl,hb2⟩;have hbA:bZ w (w2.alloc (.cells (aS s) 72)):=(bT hb1 hb2).alloc (kc hb1.size hb2.size) _;have hba:bZ w2 (w2.alloc (.cells (aS s) 72)):=bA1;have bs:=uH (kP w2 (.cells (aS s) 72));replace b1:=uH (zab (zab b1.o hb2) hba);have hs2:=hb2.size;have H2:=uH (H.o.bl hbA);clear x2 x3 x4 x5 x6 x7 x8 x9 x10 HC hba;have s0:=zaa bs.o 0 _ rfl;go_upto_region 4 with fail
 generalize w2.alloc (.cells (aS s) 72)=W2 at *;obtain ⟨t0,t1,t2,t3,t4⟩:=cl5 b1.o;obtain ⟨r0,r1,r2,r3,r4⟩:=fr5 b1.o
 by_cases hz:s.n=0
 {
 have HE:=uH (HL.o hz);have d: (s.n==0)=true:=by simpa using hz
 clear hz;go_wp2_with fail;refine kT (v:=.tuple #[cpv 0 0 0 ⟨none,0,0,none,0,0⟩,iV 0]) (by simp [results,Tryz.results191,go_sem,cpv,t0,t1,t2,t3,t4]) rfl ?_;have hbF:bZ w (puts W2 w.heap.size 0 [iV 0,iV 0,iV 0,nV,nV]):=hbA.trans (zbd _ (kQ _) hbA.size);have hfin:LcAns w (KV Z q) (lastC v) (.returned (.tuple #[cpv 0 0 0 ⟨none,0,0,none,0,0⟩,iV 0])) (puts W2 w.heap.size 0 [iV 0,iV 0,iV 0,nV,nV]):=by rw [HE.o];exact⟨⟨_,rfl,ci9 _ _⟩,hbF⟩
 exact hfin }
 have d: (s.n==0)=false:=by simpa using hz
 have x12:=zaa H2.o.box 12 (.slice m.ac m.nc m.cc) rfl;rw [H2.o.cs.at_] at x12;have hnl:=H2.o.cs.len;go_upto_region 6 with fail
 refine km (S:=fun W' =>ce W' q.B 12=some (sV q.bc m.nc m.cc)/\ce W' w2.heap.size 0=some (iV s.n)) (by kernel_rfl) ⟨x12,s0⟩ ?_;intro hHeld;refine Htk 0 ?_
 refine Htk 1 ?_
 refine Htk 2 ?_
 refine Htk 3 ?_
 refine Htk 4 ?_
 refine Htk 5 ?_
 refine Htk 6 ?_
 refine Htk 7 ?_
 try simp only [sq]
 refine KE (by kernel_rfl) ?_ _;have hbd:bZ W2 W2.drew:=(kS _ _).drew;replace hbA:=bT hbA hbd;replace b1:=uH (zab b1.o hbd);replace H2:=uH (H2.o.bl hbd);replace s0:=(hbd.cell (zah s0)).trans s0;replace x12:=(hbd.cell (zah x12)).trans x12;clear t0 t1 t2 t3 t4 r0 r1 r2 r3 r4 hHeld;generalize W2.drew=X at *;obtain ⟨t0,t1,t2,t3,t4⟩:=cl5 b1.o;obtain ⟨r0,r1,r2,r3,r4⟩:=fr5 b1.o
 by_cases hz2: (m.nc:Int)<s.n
 {
 have HE:=uH (HL2.o hz (by rw [hnl];exact hz2));clear hz hnl;go_wp2_with fail;refine kT (v:=.tuple #[cpv 0 0 0 ⟨none,0,0,none,0,0⟩,iV 5]) (by simp [results,Tryz.results191,go_sem,cpv,t0,t1,t2,t3,t4]) rfl ?_;have hbF:bZ w (puts X w.heap.size 0 [iV 0,iV 0,iV 0,nV,nV]):=hbA.trans (zbd _ (kQ _) hbA.size);have hfin:LcAns w (KV Z q) (lastC v) (.returned (.tuple #[cpv 0 0 0 ⟨none,0,0,none,0,0⟩,iV 5])) (puts X w.heap.size 0 [iV 0,iV 0,iV 0,nV,nV]):=by rw [HE.o];exact⟨⟨_,rfl,ci9 _ _⟩,hbF⟩
 exact hfin }
 obtain ⟨k0,hk0⟩: ∃k0:Nat,s.n= (k0:Int)+1:=⟨(s.n - 1).toNat,by omega⟩;have hkl:k0<v.cs.length:=by omega
 have hku:v.cs[k0]?=some v.cs[k0]:=kX hkl;have HE:Hd (lastC v= (v.cs[k0],0)):=(HL3.o hz (by rw [hnl];omega)).trans (by rw [show(s.n - 1).toNat=k0 by omega];simp [hkl]);have hkI: (k0:Int)< (m.nc:Int):=by omega
 have hwr:IntKind.i64.wrap (s.n - 1)= (k0:Int):=by rw [kD];omega
 obtain ⟨mc,ci,y0,y1,y2,y3,y4⟩:=H.o.campAt hku;have HC0:=uH ci;replace y0:=(hbA.cell (zah y0)).trans y0;replace y1:=(hbA.cell (zah y1)).trans y1;replace y2:=(hbA.cell (zah y2)).trans y2;replace y3:=(hbA.cell (zah y3)).trans y3;replace y4:=(hbA.cell (zah y4)).trans y4;have hne2:w.heap.size≠w2.heap.size:=by omega
 have hneB:w.heap.size≠q.B:=by omega
 have hneC:w.heap.size≠q.bc:=by have:=H.o.cs.lt;omega
 have hz2' : ¬(m.nc:Int)<s.n:=hz2;have HKo:=uH hk0;clear hz hnl hk0 ci hku HL HL2 HL3 d hs0 hs8 hs1 hs2;generalize v.cs[k0]=x at *;clear hkl;go_upto_region 8 with fail
 refine km (S:=fun W' =>ce W' q.B 12=some (sV q.bc m.nc m.cc)/\ce W' w2.heap.size 0=some (iV s.n)/\ce W' q.bc (k0 * 5)=some (iV x.n)/\ce W' q.bc (k0 * 5+1)=some (iV x.v)/\ce W' q.bc (k0 * 5+2)=some (iV x.u)/\ce W' q.bc (k0 * 5+3)=some (.slice mc.at_ mc.nt mc.ct)/\ce W' q.bc (k0 * 5+4)=some (.slice mc.ai mc.ni mc.ci)) (by kernel_rfl) ⟨x12,s0,y0,y1,y2,y3,y4⟩ ?_;intro hHeld;refine Htk 0 ?_
 refine Htk 1 ?_
 refine Htk 2 ?_
 refine Htk 3 ?_
 refine Htk 4 ?_
 refine Htk 5 ?_
 refine Htk 6 ?_
 refine Htk 7 ?_
 refine Htk 8 ?_
 try simp only [sq]
 have hch:Chg (fun b=>b=w.heap.size) X (((((X.setCell ⟨w.heap.size,0,none⟩ (iV x.n)).setCell ⟨w.heap.size,1,none⟩ (iV x.v)).setCell ⟨w.heap.size,2,none⟩ (iV x.u)).setCell ⟨w.heap.size,3,none⟩ (.slice mc.at_ mc.nt mc.ct)).setCell ⟨w.heap.size,4,none⟩ (.slice mc.ai mc.ni mc.ci)).drew:=((((((Chg.refl (fun b=>b=w.heap.size) X).set rfl _).set rfl _).set rfl _).set rfl _).set rfl _).drew;have hcS: (((((X.setCell ⟨w.heap.size,0,none⟩ (iV x.n)).setCell ⟨w.heap.size,1,none⟩ (iV x.v)).setCell ⟨w.heap.size,2,none⟩ (iV x.u)).setCell ⟨w.heap.size,3,none⟩ (.slice mc.at_ mc.nt mc.ct)).setCell ⟨w.heap.size,4,none⟩ (.slice mc.ai mc.ni mc.ci)).drew.cell? ⟨q.B,12,none⟩=some (sV q.bc m.nc m.cc)/\(((((X.setCell ⟨w.heap.size,0,none⟩ (iV x.n)).setCell ⟨w.heap.size,1,none⟩ (iV x.v)).setCell ⟨w.heap.size,2,none⟩ (iV x.u)).setCell ⟨w.heap.size,3,none⟩ (.slice mc.at_ mc.nt mc.ct)).setCell ⟨w.heap.size,4,none⟩ (.slice mc.ai mc.ni mc.ci)).drew.cell? ⟨w2.heap.size,0,none⟩=some (iV s.n)/\(((((X.setCell ⟨w.heap.size,0,none⟩ (iV x.n)).setCell ⟨w.heap.size,1,none⟩ (iV x.v)).setCell ⟨w.heap.size,2,none⟩ (iV x.u)).setCell ⟨w.heap.size,3,none⟩ (.slice mc.at_ mc.nt mc.ct)).setCell ⟨w.heap.size,4,none⟩ (.slice mc.ai mc.ni mc.ci)).drew.cell? ⟨q.bc,k0 * 5,none⟩=some (iV x.n)/\(((((X.setCell ⟨w.heap.size,0,none⟩ (iV x.n)).setCell ⟨w.heap.size,1,none⟩ (iV x.v)).setCell ⟨w.heap.size,2,none⟩ (iV x.u)).setCell ⟨w.heap.size,3,none⟩ (.slice mc.at_ mc.nt mc.ct)).setCell ⟨w.heap.size,4,none⟩ (.slice mc.ai mc.ni mc.ci)).drew.cell? ⟨q.bc,k0 * 5+1,none⟩=some (iV x.v)/\(((((X.setCell ⟨w.heap.size,0,none⟩ (iV x.n)).setCell ⟨w.heap.size,1,none⟩ (iV x.v)).setCell ⟨w.heap.size,2,none⟩ (iV x.u)).setCell ⟨w.heap.size,3,none⟩ (.slice mc.at_ mc.nt mc.ct)).setCell ⟨w.heap.size,4,none⟩ (.slice mc.ai mc.ni mc.ci)).drew.cell? ⟨q.bc,k0 * 5+2,none⟩=some (iV x.u)/\(((((X.setCell ⟨w.heap.size,0,none⟩ (iV x.n)).setCell ⟨w.heap.size,1,none⟩ (iV x.v)).setCell ⟨w.heap.size,2,none⟩ (iV x.u)).setCell ⟨w.heap.size,3,none⟩ (.slice mc.at_ mc.nt mc.ct)).setCell ⟨w.heap.size,4,none⟩ (.slice mc.ai mc.ni mc.ci)).drew.cell? ⟨q.bc,k0 * 5+3,none⟩=some (.slice mc.at_ mc.nt mc.ct)/\(((((X.setCell ⟨w.heap.size,0,none⟩ (iV x.n)).setCell ⟨w.heap.size,1,none⟩ (iV x.v)).setCell ⟨w.heap.size,2,none⟩ (iV x.u)).setCell ⟨w.heap.size,3,none⟩ (.slice mc.at_ mc.nt mc.ct)).setCell ⟨w.heap.size,4,none⟩ (.slice mc.ai mc.ni mc.ci)).drew.cell? ⟨q.bc,k0 * 5+4,none⟩=some (.slice mc.ai mc.ni mc.ci):=⟨hch.cell x12 (fun e=>hneB e.symm),hch.cell s0 (fun e=>hne2 e.symm),hch.cell y0 (fun e=>hneC e.symm),hch.cell y1 (fun e=>hneC e.symm),hch.cell y2 (fun e=>hneC e.symm),hch.cell y3 (fun e=>hneC e.symm),hch.cell y4 (fun e=>hneC e.symm)⟩;refine wr1 9 (fun K hK=> ?_);go_simp;refine hK.out _ _ (hcS) (fun hHeld=> ?_);clear hK K
 refine Htk 10 ?_
 try simp only [sq]
 refine KE (by kernel_rfl) ?_ _;go_wp2_with fail;refine kT (v:=.tuple #[cpv x.n x.v x.u mc,iV 0]) (by simp [results,Tryz.results191,go_sem,cpv,t0,t1,t2,t3,t4]) rfl ?_;have hbF:bZ w (((((X.setCell ⟨w.heap.size,0,none⟩ (iV x.n)).setCell ⟨w.heap.size,1,none⟩ (iV x.v)).setCell ⟨w.heap.size,2,none⟩ (iV x.u)).setCell ⟨w.heap.size,3,none⟩ (.slice mc.at_ mc.nt mc.ct)).setCell ⟨w.heap.size,4,none⟩ (.slice mc.ai mc.ni mc.ci)).drew:=hbA.trans (hch.bl (fun b e=>by omega) hbA.size);have hfin:LcAns w (KV Z q) (lastC v) (.returned (.tuple #[cpv x.n x.v x.u mc,iV 0])) (((((X.setCell ⟨w.heap.size,0,none⟩ (iV x.n)).setCell ⟨w.heap.size,1,none⟩ (iV x.v)).setCell ⟨w.heap.size,2,none⟩ (iV x.u)).setCell ⟨w.heap.size,3,none⟩ (.slice mc.at_ mc.nt mc.ct)).setCell ⟨w.heap.size,4,none⟩ (.slice mc.ai mc.ni mc.ci)).drew:=by rw [HE.o];exact⟨⟨mc,rfl,zja HC0.o hbF⟩,hbF⟩
 exact hfin
end
section
attribute [local go_sem ↓] kM kO
theorem zof {w:World} {F0 b:Nat} {K:Nat->Prop} (hK: ∀b,K b->b<F0): ∀(l:List Ms) (off:Nat),(∀i m,l[i]?=some m->∃am nm cm,(BI w am nm m.ws/\zal F0 am)/\
 ce w b (off+i * 7)=some (iV m.k)/\ce w b (off+i * 7+1)=some (iV m.u)/\ce w b (off+i * 7+2)=some (iV m.n)/\ce w b (off+i * 7+3)=some (iV m.at')/\
 ce w b (off+i * 7+4)=some (iV m.im)/\ce w b (off+i * 7+5)=some (.slice am nm cm)/\ce w b (off+i * 7+6)=some (.bool m.y))->
 ∃vs,(∀j u,vs[j]?=some u->ce w b (off+j)=some u)/\Vs (MR w K) l vs
 | [],off,_=>⟨[],fun j u h=>by simp at h,rfl⟩
 |x::r,off,h=>by
  obtain ⟨am,nm,cm,⟨h0,hf⟩,c0,c1,c2,c3,c4,c5,c6⟩:=h 0 x rfl;obtain ⟨vs,h1,h2⟩:=zof hK r (off+7) (fun i m hm=>by
   have:=h (i+1) m (by simpa using hm);rw [show off+(i+1)* 7=off+7+i * 7 by omega] at this;exact this)
  simp only [Nat.zero_mul,Nat.add_zero] at c0 c1 c2 c3 c4 c5 c6;refine⟨[iV x.k,iV x.u,iV x.n,iV x.at',iV x.im,.slice am nm cm,.bool x.y]++vs,fun j u hu=> ?_,⟨_,vs,rfl,⟨am,nm,cm,rfl,h0,.fresh hf hK⟩,h2⟩⟩
  match j,hu with
  |0,hu=>cases hu;exact c0
  |1,hu=>cases hu;exact c1
  |2,hu=>cases hu;exact c2
  |3,hu=>cases hu;exact c3
  |4,hu=>cases hu;exact c4
  |5,hu=>cases hu;exact c5
  |6,hu=>cases hu;exact c6
  |j+7,hu=>
   have:=h1 j u (by simpa using hu)
   rwa [show off+7+j=off+(j+7) by omega] at this
theorem mswF_vs {F0:Nat} (h:zep w F0 a l) (hK: ∀b,K b->b<F0): ∃vs,IsRow w a vs/\Vs (MR w K) l vs:=by
 rcases h with rfl| ⟨b,off,rfl,hc⟩
 { exact⟨[],.inl rfl,rfl⟩ }
 {
 obtain ⟨vs,h1,h2⟩:=zof hK l off hc;exact⟨vs,.inr ⟨b,off,rfl,h1⟩,h2⟩ }
theorem poke_e {k:Int} (h:isU v k=true) (h2: (lastC v).2≠0): (pokeS v k).2= (lastC v).2:=by unfold pokeS;rw [KJ (by rw [h];decide),KK h2]
def pokD (v:Vh) (k:Int):List Ms×Int:=gDue v.g (lastC v).1.n (lastC v).1.ts (lastC v).1.ims k
theorem poke_d {k:Int} (h:isU v k=true) (h2: (lastC v).2=0) (h3: (pokD v k).2≠0): (pokeS v k).2= (pokD v k).2:=by unfold pokD at h3;unfold pokeS pokD;rw [KJ (by rw [h];decide),KJ (by simpa using h2),KK h3]
theorem poke_0 {k:Int} (h:isU v k=true) (h2: (lastC v).2=0) (h3: (pokD v k).2=0):pokeS v k= (⟨v.ss,v.sg,v.g,v.us,v.cs,sendS v.net (pokD v k).1,v.now⟩,0):=by unfold pokD at h3;unfold pokeS pokD;rw [KJ (by rw [h];decide),KJ (by simpa using h2),KJ (by simpa using h3)]
theorem poke_any (F:Nat) (Z:Nat->Prop) (q:VB) (m:VA) (v:Vh) (k:Int) (w:World) (h:VOwn w F Z q m v) (ok:VOk w F Z m v) (hgt:gtE v.g=0):
 Cq 124 #[.pointer (some ⟨q.B,0,none⟩),iV k] w (HV w F Z q.B (pokeS v k)):=by
 have HN:=uH (zf7 F Z q m v k w h);have hlt:=h.lt;have hn24:=ok.nn;clear ok;cases hk:isU v k
 {
 have HE:Hd (pokeS v k= (vh0,5)):=by unfold pokeS;rw [KK hk];exact rfl
 rw [hk] at HN;clear hk h;go_enter Tryz.func124,Tryz.ntmps124;go_wp2_with fail;refine(zae HN).mono ?_;rintro e w1 ⟨rfl,hw1⟩;replace hw1:=hw1.symm;subst hw1;go_wp2_with fail;go_ret;exact zbs (by rw [HE.o]) (by decide) (kS _ _) }
 rw [hk] at HN;have HL:=uH (lastC_any F Z q m v w h hgt);have H:=uH h;have P1:=uH (fun e=>poke_e (v:=v) hk e);have P2:=uH (fun e e2=>poke_d (v:=v) hk e e2);have P3:=uH (fun e e2=>poke_0 (v:=v) hk e e2);have HPD:Hd (pokD v k=gDue v.g (lastC v).1.n (lastC v).1.ts (lastC v).1.ims k):=rfl;clear hk h hgt;go_enter Tryz.func124,Tryz.ntmps124;go_wp2_with fail;refine(zae HN).mono ?_;rintro e w1 ⟨rfl,hw1⟩;replace hw1:=hw1.symm;subst hw1;go_wp2_with fail;refine(zae HL).mono ?_;rintro e w1 ⟨⟨mc,rfl,ci⟩,hb⟩;unfold cpv;obtain ⟨x,hx⟩: ∃x,x= (lastC v).1:=⟨_,rfl⟩;rw [<-hx] at ci HPD|-;generalize (lastC v).2=y at *;have hb1:bZ w1 (w1.alloc (.cells (aC x mc) 94)):=bA1;have hb2:bZ w (w1.alloc (.cells (aC x mc) 94)):=bT hb hb1;have b1:=uH (kP w1 (.cells (aC x mc) 94));have HCI:=uH (zja ci hb1);have H2:=uH (H.o.bl hb2);clear hx ci hb hb1 HN HL
 by_cases hy:y=0
 rotate_left
 {
 have d: (y !=0)=true:=by simpa using hy
 have HE:=uH (P1.o hy);have HY:=uH hy;clear hy;go_wp2_with fail;go_ret;exact zbs HE.o HY.o (hb2.mono hlt) }
 have d: (y !=0)=false:=by simpa using hy
 have HY:=uH hy;clear hy;go_upto_region 6 with fail
 generalize w1.alloc (.cells (aC x mc) 94)=W2 at *;have x2:=zaa H2.o.box 2 (.slice m.g.a m.g.n m.g.c) rfl;have x3:=zaa H2.o.box 3 (iV v.g.fu) rfl;have x4:=zaa H2.o.box 4 (.bool v.g.up) rfl;have x5:=zaa H2.o.box 5 (iV v.g.t.r.v) rfl;have x6:=zaa H2.o.box 6 (.slice m.g.ak m.g.nk m.g.ck) rfl;have x7:=zaa H2.o.box 7 (iV v.g.t.r.t) rfl;have x8:=zaa H2.o.box 8 (iV v.g.t.ver) rfl;have x9:=zaa H2.o.box 9 (.slice m.g.av m.g.nv m.g.cv) rfl;have x10:=zaa H2.o.box 10 (.slice m.g.ad m.g.nd m.g.cd) rfl;obtain ⟨z0,z1,z2,z3,z4⟩:=cl5 b1.o;have HD:=uH (fun W (hW:bZ W2 W)=>znj v.g m.g x.n x.v x.u mc x.ts x.ims k W (H2.o.g.bl hW) (HCI.o.ts.bl hW) (HCI.o.ims.bl hW));rw [<-HPD.o] at HD;unfold gtv cpv at HD;refine km (S:=fun W' =>ce W' q.B 2=some (.slice m.g.a m.g.n m.g.c)/\ce W' q.B 3=some (iV v.g.fu)/\ce W' q.B 4=some (.bool v.g.up)/\ce W' q.B 5=some (iV v.g.t.r.v)/\ce W' q.B 6=some (.slice m.g.ak m.g.nk m.g.ck)/\ce W' q.B 7=some (iV v.g.t.r.t)/\ce W' q.B 8=some (iV v.g.t.ver)/\ce W' q.B 9=some (.slice m.g.av m.g.nv m.g.cv)/\ce W' q.B 10=some (.slice m.g.ad m.g.nd m.g.cd)/\ce W' w1.heap.size 0=some (iV x.n)/\ce W' w1.heap.size 1=some (iV x.v)/\ce W' w1.heap.size 2=some (iV x.u)/\ce W' w1.heap.size 3=some (.slice mc.at_ mc.nt mc.ct)/\ce W' w1.heap.size 4=some (.slice mc.ai mc.ni mc.ci)) (by kernel_rfl) ⟨x2,x3,x4,x5,x6,x7,x8,x9,x10,z0,z1,z2,z3,z4⟩ ?_;intro hHeld;refine Htk 0 ?_
 refine Htk 1 ?_
 refine Htk 2 ?_
 refine Htk 3 ?_
 refine Htk 4 ?_
 refine Htk 5 ?_
 refine wr1 6 (fun K hK=> ?_);go_simp;have hbd:bZ W2 W2.drew:=(kS _ _).drew;refine(zae HD _ hbd).mono ?_;rintro e w3 ⟨⟨a3,n3,c3,rfl,ms3,l3,cc3,-⟩,hb3⟩;replace hbd:bZ W2 w3:=hbd.trans hb3;have H3:=H2.o.bl hbd;replace b1:=uH (zab b1.o hbd);clear x2 x3 x4 x5 x6 x7 x8 x9 x10 z0 z1 z2 z3 z4 hHeld;have x2:=zaa H3.box 2 (.slice m.g.a m.g.n m.g.c) rfl;have x3:=zaa H3.box 3 (iV v.g.fu) rfl;have x4:=zaa H3.box 4 (.bool v.g.up) rfl;have x5:=zaa H3.box 5 (iV v.g.t.r.v) rfl;have x6:=zaa H3.box 6 (.slice m.g.ak m.g.nk m.g.ck) rfl;have x7:=zaa H3.box 7 (iV v.g.t.r.t) rfl;have x8:=zaa H3.box 8 (iV v.g.t.ver) rfl;have x9:=zaa H3.box 9 (.slice m.g.av m.g.nv m.g.cv) rfl;have x10:=zaa H3.box 10 (.slice m.g.ad m.g.nd m.g.cd) rfl;obtain ⟨z0,z1,z2,z3,z4⟩:=cl5 b1.o;obtain ⟨mv,hr3,hv3⟩:=mswF_vs ms3 (K:=KV Z q) (fun b e=>H2.o.kv b e);have HS:=uH (zgs F Z q m v a3 n3 c3 (pokD v k).1 mv w3 H3 hn24 hr3 hv3 l3 cc3);have HB:=uH (bT hb2 hbd);clear ms3 l3 cc3 hr3 hv3 H3 hb3 HD HCI b1 hbd;generalize pokD v k=r at *;refine hK.out _ _ (⟨x2,x3,x4,x5,x6,x7,x8,x9,x10,z0,z1,z2,z3,z4⟩) (fun hHeld=> ?_);clear hK K
 refine Htk 7 ?_
 refine Htk 8 ?_
 refine Htk 9 ?_
 refine Htk 10 ?_
 refine Htk 11 ?_
 try simp only [sq]
 refine KE (by kernel_rfl) ?_ _;clear x2 x3 x4 x5 x6 x7 x8 x9 x10 z0 z1 z2 z3 z4 hHeld
 by_cases hz:r.2=0
 rotate_left
 {
 have d2: (r.2 !=0)=true:=by simpa using hz
 have HE:=uH (P2.o HY.o hz);have HZ:=uH hz;clear hz;generalize r.2=y2 at *;go_wp2_with fail;go_ret;exact zbs HE.o HZ.o (HB.o.mono hlt) }
 have d2: (r.2 !=0)=false:=by simpa using hz
 have HE:=uH (P3.o HY.o hz);clear hz;generalize r.2=y2 at *;go_wp2_with fail;refine(zae HS).mono ?_;rintro e w4 ⟨rfl,hs4⟩;go_wp2_with fail;go_ret;exact zif HE.o hs4 (HB.o.mono hlt)
end
section
attribute [local go_sem ↓] kM kO
theorem zk7 (g B n:Nat) (es:LI) (w:World) (hn:es.length=n) (hm:n<=1000) (h: ∀i e,es[i]?=some e->∃fn,w.cell? ⟨g,i,none⟩=some (.func (.func fn) #[] #[.pointer (some ⟨B,0,none⟩)])/\(∀W,(callFunc fn #[.pointer (some ⟨B,0,none⟩)]).run Tryz.prog W=.ok (.enter fn #[.pointer (some ⟨B,0,none⟩)]) W)/\
 ∀W,bZ w W->Cq fn #[.pointer (some ⟨B,0,none⟩)] W (fun r w' =>r=.returned (iV e)/\bZ W w')):
 Cq 57 #[sV g n n] w fun r w' =>r=.returned (iV (za0 es))/\bZ w w' :=by
 have HN:=uH hn;have HF:=uH h;clear hn h;have hnI: (n:Int)<=9223372036854775807:=by omega
 go_enter Tryz.func57,Tryz.ntmps57;go_wp2_with fail
 go_loopw [8] (fun i wq=>∃k:Nat,k<=n/\i=iV k/\Hd (bZ w wq)/\Hd (∀j,j<k->es.getD j 0=0)) (fun i _=>n - (intOf i).toNat)
 case atStart=>exact⟨0,by omega,rfl,kS _ _,fun j hj=>absurd hj (by omega)⟩
 case round=>
  obtain ⟨wq,rfl⟩: ∃wq:World,wq=wr:=⟨_,rfl⟩;obtain ⟨k,hk,rfl,hB,hZ⟩:=hrel
  by_cases hkn:k<n
  {
  have hkI: (k:Int)< (n:Int):=by omega
  have hul:k<es.length:=by rw [HN.o];exact hkn
  obtain ⟨fn,y0,hcf,hu⟩:=HF.o k _ (kX hul);have HM:Hd (es[k]?=some es[k]):=kX hul;have HU:=uH (hu wq hB.o);generalize es[k]=u at *;replace y0:=(hB.o.cell (zah y0)).trans y0;clear hul hu;go_wp2_with fail;refine(zae HU).mono ?_;rintro e w3 ⟨rfl,hb3⟩;have HB3:=uH (bT hB.o hb3);clear hb3 HU
  by_cases hq:u=0
  rotate_left
  {
  have d: (u !=0)=true:=by simpa using hq
  have HE:=uH (zch _ k _ hZ.o HM.o hq);clear hq;go_wp2_with fail;go_ret;exact⟨zao HE.o.symm,HB3.o⟩ }
  have d: (u !=0)=false:=by simpa using hq
  have HQ0:=uH hq;clear hq;go_wp2_with fail;exact⟨⟨k+1,hkn,by simp,HB3,zdn hZ.o HM.o HQ0.o⟩,by simp [intOf];omega⟩ }
  {
  have hkk:k=n:=by omega
  subst hkk;clear hk hkn;go_wp2_with fail;go_ret;exact⟨zao (zc4 _ (by rw [HN.o];exact hZ.o)).symm,hB.o⟩ }
def manyE (v:Vh):Int:=if v.cs.length<=8/\v.net.length<=24 then 0 else 2
theorem zmz (v:Vh) (m:VA) (w:World) (h1:v.cs.length=m.nc) (h2:v.net.length=m.nn):
 Cq 65 #[vhv v m] w fun e w' =>e=.returned (iV (manyE v))/\bZ w w' :=by
 unfold vhv vhC manyE;rw [h1,h2];have hw:bZ w (w.alloc (.cells (vhC v m) 40)):=bA1;unfold vhC at hw;clear h1 h2
 by_cases z1:m.nc<=8
 {
 by_cases z2:m.nn<=24
 {
 have hz1: (m.nc:Int)<=8:=by omega
 have hz2: (m.nn:Int)<=24:=by omega
 rw [KK ⟨z1,z2⟩];go_enter Tryz.func65,Tryz.ntmps65;go_wp2_with fail;refine(zc7 true 2 _).mono ?_;rintro e w1 ⟨rfl,rfl⟩;go_wp2_with fail;go_ret;exact⟨rfl,hw⟩ }
 {
 have hz1: (m.nc:Int)<=8:=by omega
 have hz2: ¬(m.nn:Int)<=24:=by omega
 rw [KJ (fun h=>z2 h.2)];go_enter Tryz.func65,Tryz.ntmps65;go_wp2_with fail;refine(zc7 false 2 _).mono ?_;rintro e w1 ⟨rfl,rfl⟩;go_wp2_with fail;go_ret;exact⟨rfl,hw⟩ } }
 {
 have hz1: ¬(m.nc:Int)<=8:=by omega
 rw [KJ (fun h=>z1 h.1)];go_enter Tryz.func65,Tryz.ntmps65;go_wp2_with fail;refine(zc7 false 2 _).mono ?_;rintro e w1 ⟨rfl,rfl⟩;go_wp2_with fail;go_ret;exact⟨rfl,hw⟩ }
structure CkB (W:World) (B:Nat) (v:Vh) (m:VA):Prop where
 box:W.heap[B]?=some (vhO v m)
 vin:VIn W (fun _=>False) m v
theorem CkB.bl {W W' :World} {B:Nat} (h:CkB W B v m) (hb:bZ W W'):CkB W' B v m:=⟨zab h.box hb,h.vin.bl hb⟩
theorem zrd (B:Nat) (v:Vh) (m:VA) (w:World) (h:CkB w B v m):
 Cq 58 #[.pointer (some ⟨B,0,none⟩)] w fun e w' =>e=.returned (iV (bookE v.ss))/\bZ w w' :=by
 have x0:=zaa h.box 0 (.slice m.ab m.nb m.cb) rfl;have HC:=uH (zdw m.ab m.nb m.cb v.ss w h.vin.ss.at_ h.vin.ss.len h.vin.ss.cap h.vin.ss.short);unfold bookv at HC;clear h;go_enter Tryz.func58,Tryz.ntmps58;go_wp2_with fail;refine(zae HC).mono ?_;rintro e w1 ⟨rfl,hb⟩;go_wp2_with fail;go_ret;exact⟨rfl,hb⟩
theorem zp4 (B:Nat) (v:Vh) (m:VA) (w:World) (h:CkB w B v m):
 Cq 59 #[.pointer (some ⟨B,0,none⟩)] w fun e w' =>e=.returned (iV (sigE v.sg))/\bZ w w' :=by
 have x1:=zaa h.box 1 (.slice m.sa m.ns m.cs) rfl;have HC:=uH (zd3 m.sa m.ns m.cs v.sg w h.vin.sg);clear h;go_enter Tryz.func59,Tryz.ntmps59;go_wp2_with fail;refine(zae HC).mono ?_;rintro e w1 ⟨rfl,hb⟩;go_wp2_with fail;go_ret;exact⟨rfl,hb⟩
theorem zq3 (B:Nat) (v:Vh) (m:VA) (w:World) (h:CkB w B v m):
 Cq 60 #[.pointer (some ⟨B,0,none⟩)] w fun e w' =>e=.returned (iV (gtE v.g))/\bZ w w' :=by
 have x2:=zaa h.box 2 (.slice m.g.a m.g.n m.g.c) rfl;have x3:=zaa h.box 3 (iV v.g.fu) rfl;have x4:=zaa h.box 4 (.bool v.g.up) rfl;have x5:=zaa h.box 5 (iV v.g.t.r.v) rfl;have x6:=zaa h.box 6 (.slice m.g.ak m.g.nk m.g.ck) rfl;have x7:=zaa h.box 7 (iV v.g.t.r.t) rfl;have x8:=zaa h.box 8 (iV v.g.t.ver) rfl;have x9:=zaa h.box 9 (.slice m.g.av m.g.nv m.g.cv) rfl;have x10:=zaa h.box 10 (.slice m.g.ad m.g.nd m.g.cd) rfl;have HC:=uH (zca v.g m.g w h.vin.g);unfold gtv at HC;clear h;go_enter Tryz.func60,Tryz.ntmps60;go_wp2_with fail;refine(zae HC).mono ?_;rintro e w1 ⟨rfl,hb⟩;go_wp2_with fail;go_ret;exact⟨rfl,hb⟩
theorem zre (B:Nat) (v:Vh) (m:VA) (w:World) (h:CkB w B v m):
 Cq 62 #[.pointer (some ⟨B,0,none⟩)] w fun e w' =>e=.returned (iV (unsE v.us v.g.vo.length))/\bZ w w' :=by
 have x11:=zaa h.box 11 (.slice m.au m.nu m.cu) rfl;have x9:=zaa h.box 9 (.slice m.g.av m.g.nv m.g.cv) rfl;have HC:=uH (zk6 m.au m.nu m.cu _ v.us m.g.nv w h.vin.us);have hl:=h.vin.g.vo.len;rw [hl];clear h hl;go_enter Tryz.func62,Tryz.ntmps62;go_wp2_with fail;refine(zae HC).mono ?_;rintro e w1 ⟨rfl,hb⟩;go_wp2_with fail;go_ret;exact⟨rfl,hb⟩
theorem zrh (B:Nat) (v:Vh) (m:VA) (w:World) (h:CkB w B v m):
 Cq 64 #[.pointer (some ⟨B,0,none⟩)] w fun e w' =>e=.returned (iV (manyE v))/\bZ w w' :=by
 have x0:=zaa h.box 0 (.slice m.ab m.nb m.cb) rfl;have x1:=zaa h.box 1 (.slice m.sa m.ns m.cs) rfl;have x2:=zaa h.box 2 (.slice m.g.a m.g.n m.g.c) rfl;have x3:=zaa h.box 3 (iV v.g.fu) rfl;have x4:=zaa h.box 4 (.bool v.g.up) rfl;have x5:=zaa h.box 5 (iV v.g.t.r.v) rfl;have x6:=zaa h.box 6 (.slice m.g.ak m.g.nk m.g.ck) rfl;have x7:=zaa h.box 7 (iV v.g.t.r.t) rfl;have x8:=zaa h.box 8 (iV v.g.t.ver) rfl;have x9:=zaa h.box 9 (.slice m.g.av m.g.nv m.g.cv) rfl;have x10:=zaa h.box 10 (.slice m.g.ad m.g.nd m.g.cd) rfl;have x11:=zaa h.box 11 (.slice m.au m.nu m.cu) rfl;have x12:=zaa h.box 12 (.slice m.ac m.nc m.cc) rfl;have x13:=zaa h.box 13 (.slice m.an m.nn m.cn) rfl;have x14:=zaa h.box 14 (iV v.now) rfl;have HC:=uH (zmz v m w h.vin.cs.len h.vin.net.len);unfold vhv vhC at HC;clear h;go_enter Tryz.func64,Tryz.ntmps64;go_wp2_with fail;refine(zae HC).mono ?_;rintro e w1 ⟨rfl,hb⟩;go_wp2_with fail;go_ret;exact⟨rfl,hb⟩
theorem zp8 (B:Nat) (v:Vh) (m:VA) (w:World) (h:CkB w B v m):
 Cq 66 #[.pointer (some ⟨B,0,none⟩)] w fun e w' =>e=.returned (iV (cpsE v.us.length v.cs))/\bZ w w' :=by
 have x12:=zaa h.box 12 (.slice m.ac m.nc m.cc) rfl;have x11:=zaa h.box 11 (.slice m.au m.nu m.cu) rfl;have HC:=uH (zh3 m.ac m.nc m.cc _ v.cs m.nu w h.vin.cs);have hl:=h.vin.us.len;rw [hl];clear h hl;go_enter Tryz.func66,Tryz.ntmps66;go_wp2_with fail;refine(zae HC).mono ?_;rintro e w1 ⟨rfl,hb⟩;go_wp2_with fail;go_ret;exact⟨rfl,hb⟩
theorem zql (B:Nat) (v:Vh) (m:VA) (w:World) (h:CkB w B v m):
 Cq 68 #[.pointer (some ⟨B,0,none⟩)] w fun e w' =>e=.returned (iV (netE v.us.length v.net))/\bZ w w' :=by
 have x13:=zaa h.box 13 (.slice m.an m.nn m.cn) rfl;have x11:=zaa h.box 11 (.slice m.au m.nu m.cu) rfl;have HC:=uH (zny m.an m.nn m.cn _ v.net m.nu w h.vin.net);have hl:=h.vin.us.len;rw [hl];clear h hl;go_enter Tryz.func68,Tryz.ntmps68;go_wp2_with fail;refine(zae HC).mono ?_;rintro e w1 ⟨rfl,hb⟩;go_wp2_with fail;go_ret;exact⟨rfl,hb⟩
def nowE (v:Vh):Int:=if inB v.now 0 100000=true then 0 else 3
theorem zqz (B:Nat) (v:Vh) (m:VA) (w:World) (h:CkB w B v m):
 Cq 70 #[.pointer (some ⟨B,0,none⟩)] w fun e w' =>e=.returned (iV (nowE v))/\bZ w w' :=by
 have x14:=zaa h.box 14 (iV v.now) rfl;have HC:=uH (zdq v.now 0 100000 w);clear h;have HE:=uH (zc7 (inB v.now 0 100000) 3 w);rw [show(if inB v.now 0 100000=true then(0:Int) else 3)=nowE v from rfl] at HE;generalize nowE v=z0 at *;generalize inB v.now 0 100000=q at *;go_enter Tryz.func70,Tryz.ntmps70;go_wp2_with fail;refine(zae HC).mono ?_;rintro e w1 ⟨rfl,hw1⟩;replace hw1:=hw1.symm;subst hw1;go_wp2_with fail;refine(zae HE).mono ?_;rintro e w1 ⟨rfl,hw1⟩;replace hw1:=hw1.symm;subst hw1;go_wp2_with fail;go_ret;exact⟨rfl,kS _ _⟩
theorem vhE_eq (v:Vh):vhE v=za0 [bookE v.ss,sigE v.sg,gtE v.g,unsE v.us v.g.vo.length,manyE v,cpsE v.us.length v.cs,netE v.us.length v.net,nowE v]:=rfl
theorem zct (v:Vh) (m:VA) (w:World) (h:VIn w (fun _=>False) m v):
 Cq 16 #[vhv v m] w fun e w' =>e=.returned (iV (vhE v))/\bZ w w' :=by
 have hw:bZ w (w.alloc (.cells (vhC v m) 40)):=bA1;have hck:Hd (CkB (w.alloc (.cells (vhC v m) 40)) w.heap.size v m):=⟨kP w (.cells (vhC v m) 40),h.bl hw⟩;have HE:=uH (vhE_eq v);clear h;unfold vhv;go_enter Tryz.func16,Tryz.ntmps16;go_wp2_with fail;have hb2:Below (w.alloc (.cells (vhC v m) 40)).heap.size (w.alloc (.cells (vhC v m) 40)) ((w.alloc (.cells (vhC v m) 40)).alloc (.cells #[.func (.func 58) #[] #[.pointer (some ⟨w.heap.size,0,none⟩)],.func (.func 59) #[] #[.pointer (some ⟨w.heap.size,0,none⟩)],.func (.func 60) #[] #[.pointer (some ⟨w.heap.size,0,none⟩)],.func (.func 62) #[] #[.pointer (some ⟨w.heap.size,0,none⟩)],.func (.func 64) #[] #[.pointer (some ⟨w.heap.size,0,none⟩)],.func (.func 66) #[] #[.pointer (some ⟨w.heap.size,0,none⟩)],.func (.func 68) #[] #[.pointer (some ⟨w.heap.size,0,none⟩)],.func (.func 70) #[] #[.pointer (some ⟨w.heap.size,0,none⟩)]] 124)):=bA1;have hr:=zau w (.cells (vhC v m) 40) (.cells #[.func (.func 58) #[] #[.pointer (some ⟨w.heap.size,0,none⟩)],.func (.func 59) #[] #[.pointer (some ⟨w.heap.size,0,none⟩)],.func (.func 60) #[] #[.pointer (some ⟨w.heap.size,0,none⟩)],.func (.func 62) #[] #[.pointer (some ⟨w.heap.size,0,none⟩)],.func (.func 64) #[] #[.pointer (some ⟨w.heap.size,0,none⟩)],.func (.func 66) #[] #[.pointer (some ⟨w.heap.size,0,none⟩)],.func (.func 68) #[] #[.pointer (some ⟨w.heap.size,0,none⟩)],.func (.func 70) #[] #[.pointer (some ⟨w.heap.size,0,none⟩)]] 124);refine(zk7 (w.heap.size+1) w.heap.size 8 [bookE v.ss,sigE v.sg,gtE v.g,unsE v.us v.g.vo.length,manyE v,cpsE v.us.length v.cs,netE v.us.length v.net,nowE v] _ rfl (by decide) (fun i e hi=> ?_)).mono ?_
 {
 have hck2:=hck.o.bl hb2
 match i,hi with
 |0,hi=>cases hi;exact⟨_,zaa hr 0 _ rfl,fun W=>by rfl,fun W hW=>zrd _ v m W (hck2.bl hW)⟩
 |1,hi=>cases hi;exact⟨_,zaa hr 1 _ rfl,fun W=>by rfl,fun W hW=>zp4 _ v m W (hck2.bl hW)⟩
 |2,hi=>cases hi;exact⟨_,zaa hr 2 _ rfl,fun W=>by rfl,fun W hW=>zq3 _ v m W (hck2.bl hW)⟩
 |3,hi=>cases hi;exact⟨_,zaa hr 3 _ rfl,fun W=>by rfl,fun W hW=>zre _ v m W (hck2.bl hW)⟩
 |4,hi=>cases hi;exact⟨_,zaa hr 4 _ rfl,fun W=>by rfl,fun W hW=>zrh _ v m W (hck2.bl hW)⟩
 |5,hi=>cases hi;exact⟨_,zaa hr 5 _ rfl,fun W=>by rfl,fun W hW=>zp8 _ v m W (hck2.bl hW)⟩
 |6,hi=>cases hi;exact⟨_,zaa hr 6 _ rfl,fun W=>by rfl,fun W hW=>zql _ v m W (hck2.bl hW)⟩
 |7,hi=>cases hi;exact⟨_,zaa hr 7 _ rfl,fun W=>by rfl,fun W hW=>zqz _ v m W (hck2.bl hW)⟩
 |i+8,hi=>simp at hi }
 rintro e w3 ⟨rfl,hb3⟩;have hbel:=hw.trans ((bT hb2 hb3).mono hw.size);clear hr hb2 hb3 hck;go_wp2_with fail;go_ret;exact⟨zao HE.o.symm,hbel⟩
end
end Go.Proofs.YthmekfcgdfckaaaGreatDoor
