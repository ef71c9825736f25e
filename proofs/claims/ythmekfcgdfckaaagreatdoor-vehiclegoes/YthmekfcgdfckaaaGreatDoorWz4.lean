/- Facts. -/
import Derived.Test.YthmekfcgdfckaaaGreatDoorWz1
set_option maxRecDepth 1000000
set_option maxHeartbeats 0
namespace Go.Proofs.YthmekfcgdfckaaaGreatDoor
open Go.RowKit
variable {ws xs:LI} {w:World}
def inB (n lo hi:Int):Bool:=decide (lo<=n/\n<=hi)
theorem zdh (n lo hi:Int) (w:World):Cq 236 #[iV n,iV lo,iV hi] w fun e w' =>e=.returned (.bool (inB n lo hi))/\w' =w:=by
 by_cases h0:lo<=n
 {
 by_cases h1:n<=hi
 {
 go_enter Tryz.func236,Tryz.ntmps236;go_wp2;go_ret;exact⟨zan (by unfold inB;simp;omega),rfl⟩ }
 {
 have hd:decide (n<=hi)=false:=by simp;omega
 go_enter Tryz.func236,Tryz.ntmps236;go_wp2;go_ret;exact⟨zan (by unfold inB;simp;omega),rfl⟩ } }
 {
 have hd:decide (lo<=n)=false:=by simp;omega
 go_enter Tryz.func236,Tryz.ntmps236;go_wp2;go_ret;exact⟨zan (by unfold inB;simp;omega),rfl⟩ }
theorem zhd (s:Int) (w:World) (h0:0<=s) (h1:s<=1):Cq 237 #[iV s] w fun e w' =>e=.returned (iV (2+s * 2))/\w' =w:=by
 go_enter Tryz.func237,Tryz.ntmps237;go_wp2;go_ret;exact⟨rfl,rfl⟩
theorem zey (s:Int) (w:World) (h0:0<=s) (h1:s<=1):Cq 179 #[iV s] w fun e w' =>e=.returned (iV (64+64 * s))/\w' =w:=by
 go_enter Tryz.func179,Tryz.ntmps179;go_wp2_with fail;refine(zhd s _ h0 h1).mono ?_;rintro e w1 ⟨rfl,rfl⟩;go_wp2;go_ret;exact⟨zao (by omega),rfl⟩
theorem zg7 (s:Int) (w:World) (h0:0<=s) (h1:s<=1):Cq 238 #[iV s] w fun e w' =>e=.returned (iV (68+64 * s))/\w' =w:=by
 go_enter Tryz.func238,Tryz.ntmps238;go_wp2_with fail;refine(zey s _ h0 h1).mono ?_;rintro e w1 ⟨rfl,rfl⟩;go_wp2;go_ret;exact⟨zao (by omega),rfl⟩
def sealB (long name:Int):Bool:=inB long 1 40&&inB name 1 60
theorem zhs (long name:Int) (w:World):Cq 180 #[iV long,iV name] w fun e w' =>e=.returned (.bool (sealB long name))/\w' =w:=by
 go_enter Tryz.func180,Tryz.ntmps180;go_wp2_with fail;refine(zdh long 1 40 _).mono ?_;rintro e w1 ⟨rfl,rfl⟩;cases hb:inB long 1 40
 {
 have HB:=uH hb;clear hb;go_wp2;go_ret;exact⟨zan (by unfold sealB;rw [HB.o];rfl),rfl⟩ }
 {
 have HB:=uH hb;clear hb;go_wp2_with fail;refine(zdh name 1 60 _).mono ?_;rintro e w1 ⟨rfl,rfl⟩;go_wp2;go_ret;exact⟨zan (by unfold sealB;rw [HB.o];rfl),rfl⟩ }
def xorW (x:Int):Int:=bits .xor .i64 x 65535
def headL (long name:Int):LI:= [long,name,xorW long,xorW name]
theorem zhx (long name:Int) (w:World):Cq 181 #[iV long,iV name] w fun e w' =>e=.returned (.agg #[iV long,iV name,iV (xorW long),iV (xorW name)])/\bZ w w' :=by
 go_enter Tryz.func181,Tryz.ntmps181;go_wp2;refine kT (v:=.agg #[iV long,iV name,iV (xorW long),iV (xorW name)]) (by simp [results,Tryz.results181,go_sem,xorW]) rfl ?_;exact⟨rfl,(bA1)⟩
def slotE (ws:LI) (fuel s:Int):Int:=if chk ws fuel≠0 then chk ws fuel else if ws.length≠192 then 4 else if inB s 0 1=false then 5 else 0
theorem zdt {fuel s:Int} (h:slotE ws fuel s=0):chk ws fuel=0/\ws.length=192/\0<=s/\s<=1:=by
 unfold slotE at h
 split at h
 { rename_i c;exact absurd h c }
 {
 split at h
 { simp at h }
 {
 split at h
 { simp at h }
 {
 rename_i h1 h2 h3
 simp [inB] at h3
 simp at h1 h2
 exact⟨h1,h2,h3.1,h3.2⟩ } } }
theorem zcy (a:oA) (n c:Nat) (ws:LI) (fuel s:Int) (w:World) (h:zag w a ws) (hn:ws.length=n) (hm:n<=maxLen):
 Cq 178 #[.agg #[.slice a n c,iV fuel],iV s] w fun e w' =>e=.returned (iV (slotE ws fuel s))/\bZ w w' :=by
 have hw:bZ w (w.alloc (.cells #[.slice a n c,iV fuel] 28)):=bA1;have B0:=uH (kP w (.cells #[.slice a n c,iV fuel] 28));have HC:=uH (zf5 a n c ws fuel _ (h.bl hw) hn hm);have HN:=uH hn;clear hn;go_enter Tryz.func178,Tryz.ntmps178;go_wp2_with fail;generalize w.alloc (.cells #[.slice a n c,iV fuel] 28)=W at *;refine(zae HC).mono ?_;rintro e w1 ⟨rfl,hb1⟩;have c00:=zaa (zab B0.o hb1) 0 _ rfl;replace hw:=bT hw hb1
 by_cases e1:chk ws fuel=0
 rotate_left
 {
 have e1' : (chk ws fuel !=0)=true:=by simpa using e1
 have hr:Hd (slotE ws fuel s=chk ws fuel):=by show _=_;unfold slotE;rw [KK e1]
 clear e1;go_wp2;go_ret;exact⟨zao hr.o.symm,hw⟩ }
 have e1' : (chk ws fuel !=0)=false:=by simpa using e1
 have E1:=uH e1;clear e1
 by_cases e2:n=192
 rotate_left
 {
 have e2' : ((n:Int) !=192)=true:=by simp;omega
 have hr:Hd (slotE ws fuel s=4):=by show _=_;unfold slotE;rw [KJ (by simpa using E1.o),HN.o,KK e2]
 go_wp2;go_ret;exact⟨zao hr.o.symm,hw⟩ }
 subst e2;go_wp2_with fail;refine(zdh s 0 1 _).mono ?_;rintro e w2 ⟨rfl,rfl⟩;cases e3:inB s 0 1
 {
 have hr:Hd (slotE ws fuel s=5):=by show _=_;unfold slotE;rw [KJ (by simpa using E1.o),HN.o,KJ (by simp),KK e3]
 clear e3;go_wp2;go_ret;exact⟨zao hr.o.symm,hw⟩ }
 {
 have hr:Hd (slotE ws fuel s=0):=by show _=_;unfold slotE;rw [KJ (by simpa using E1.o),HN.o,KJ (by simp),KJ (by simp [e3])]
 clear e3;go_wp2;go_ret;exact⟨zao hr.o.symm,hw⟩ }
section
attribute [local go_sem ↓] kM kO
def fillB (at' :Int) (n:Nat):Bool:=inB at' 0 40&&decide ((n:Int)<=40 - at')
def fillS (ws:LI) (fuel s at' :Int) (words:LI):LI×Int×Int:=
 if slotE ws fuel s≠0 then([],0,slotE ws fuel s) else if fillB at' words.length=false then([],0,2) else progS ws fuel (68+64 * s+at') words
theorem fill_any (a:oA) (n c:Nat) (ws:LI) (fuel s at' :Int) (a2:oA) (n2 c2:Nat) (words:LI) (w:World)
 (h:zag w a ws) (hn:ws.length=n) (hm:n<=maxLen) (h2:zag w a2 words) (hn2:words.length=n2) (hm2:n2<=maxLen):
 Cq 254 #[.agg #[.slice a n c,iV fuel],iV s,iV at',.slice a2 n2 c2] w (zbf w (fillS ws fuel s at' words)):=by
 have HC:=uH (fun W (h:zag W a ws)=>zcy a n c ws fuel s W h hn hm);have HN:=uH hn;have HN2:=uH hn2;clear hn hn2;have b0:=uH (zai (kP w (.cells #[.slice a n c,iV fuel] 28)) (.cells #[nV,iV 0] 28));have b1:Hd (((w.alloc (.cells #[.slice a n c,iV fuel] 28)).alloc (.cells #[nV,iV 0] 28)).heap[w.heap.size+1]?=some (.cells #[nV,iV 0] 28 (0,0))):=by
  show _=_
  simpa using kP (w.alloc _) _
 have hw:bZ w ((w.alloc (.cells #[.slice a n c,iV fuel] 28)).alloc (.cells #[nV,iV 0] 28)):=
  bA2
 have i0:=h.bl hw;have i1:=h2.bl hw;go_enter Tryz.func254,Tryz.ntmps254;go_wp2_with fail;generalize (w.alloc (.cells #[.slice a n c,iV fuel] 28)).alloc (.cells #[nV,iV 0] 28)=W at *;refine(zae HC _ i0).mono ?_;rintro e w1 ⟨rfl,hb1⟩;replace b0:=uH (zab b0.o hb1);replace b1:=uH (zab b1.o hb1);replace i0:=i0.bl hb1;replace i1:=i1.bl hb1;replace hw:=bT hw hb1;clear hb1;have x0:=zaa b0.o 0 (.slice a n c) rfl;have x1:=zaa b0.o 1 (iV fuel) rfl;have r0:=zaa b1.o 0 _ rfl;have r1:=zaa b1.o 1 _ rfl;have f0:=zad b1.o 0;have f1:=zad b1.o 1;have lt0:=zak b0.o;have lt1:=zak b1.o
 by_cases e1:slotE ws fuel s=0
 rotate_left
 {
 have e1' : (slotE ws fuel s !=0)=true:=by simpa using e1
 have hr:Hd (fillS ws fuel s at' words= ([],0,slotE ws fuel s)):=by show _=_;unfold fillS;rw [KK e1]
 go_wp2;refine kT (v:=.tuple #[.agg #[nV,iV 0],iV (slotE ws fuel s)]) (by simp [results,Tryz.results254,go_sem,r0,r1]) rfl ?_;exact zaz hr.o ((hw.setCell (by simp) _).setCell (by simp) _) }
 have e1' : (slotE ws fuel s !=0)=false:=by simpa using e1
 have E1:=uH e1;clear e1;go_wp2_with fail;refine(zdh at' 0 40 _).mono ?_;rintro e w2 ⟨rfl,rfl⟩;cases e2:inB at' 0 40
 {
 have hr:Hd (fillS ws fuel s at' words= ([],0,2)):=by show _=_;unfold fillS;rw [KJ (by simpa using E1.o),KK (by unfold fillB;rw [e2];rfl)]
 clear e2;go_wp2;refine kT (v:=.tuple #[.agg #[nV,iV 0],iV 2]) (by simp [results,Tryz.results254,go_sem,r0,r1]) rfl ?_;exact zaz hr.o ((hw.setCell (by simp) _).setCell (by simp) _) }
 have q2:0<=at' /\at' <=40:=by unfold inB at e2;simpa using e2
 have E2:=uH e2;clear e2;unfold maxLen at hm2
 by_cases e3: (n2:Int)<=40 - at'
 rotate_left
 {
 have hr:Hd (fillS ws fuel s at' words= ([],0,2)):=by show _=_;unfold fillS;rw [KJ (by simpa using E1.o),KK (by unfold fillB;rw [E2.o,HN2.o];simp;omega)]
 have e3' :40 - at' < (n2:Int):=by omega
 go_wp2;refine kT (v:=.tuple #[.agg #[nV,iV 0],iV 2]) (by simp [results,Tryz.results254,go_sem,r0,r1]) rfl ?_;exact zaz hr.o ((hw.setCell (by simp) _).setCell (by simp) _) }
 have hr:Hd (fillS ws fuel s at' words=progS ws fuel (68+64 * s+at') words):=by show _=_;unfold fillS;rw [KJ (by simpa using E1.o),KJ (by unfold fillB;rw [E2.o,HN2.o];simp;omega)]
 have e3' :decide (40 - at' < (n2:Int))=false:=by simp;omega
 obtain ⟨-,-,p0,p1⟩:=zdt E1.o;have i3:IntKind.i64.wrap (68+64 * s+at')=68+64 * s+at' :=by rw [kD];omega
 have HP:=uH (fun W' (hb:bZ w2 W')=>zf9 a n c ws fuel (68+64 * s+at') a2 n2 c2 words W' (i0.bl hb) HN.o hm (i1.bl hb) HN2.o (by unfold maxLen;omega) (by omega));go_wp2_with fail
 go_region_held3 (fun w' =>w'.cell? ⟨w.heap.size,0,none⟩=some (.slice a n c)/\w'.cell? ⟨w.heap.size,1,none⟩=some (iV fuel)) (first|exact⟨by assumption,by assumption⟩|go_keep)
  ((first| (go_at_call 238;refine(zg7 s _ p0 p1).mono ?_;rintro e w5 ⟨rfl,rfl⟩)| (go_at_call 252;refine(zae HP _ ?_).mono ?_;exact(kS _ _).drew;rintro e w6 ⟨⟨a6,n6,c6,rfl,hi6,hn6,hc6,hf6⟩,hb6⟩;have hb7:bZ w2 w6:=(Below.trans (kS _ w2).drew hb6);have y0:w6.cell? ⟨w.heap.size,0,none⟩=some (.slice a n c):=(by rw [hb7.cell lt0];exact x0);have y1:w6.cell? ⟨w.heap.size,1,none⟩=some (iV fuel):=(by rw [hb7.cell lt0];exact x1);have q0:=zaa (zab b1.o hb7) 0 _ rfl;have q1:=zaa (zab b1.o hb7) 1 _ rfl;have q2:=zad (zab b1.o hb7) 0;have q3:=zad (zab b1.o hb7) 1)))
 go_wp2;refine kT (v:=.tuple #[.agg #[.slice a6 n6 c6,iV (progS ws fuel (68+64 * s+at') words).2.1],iV (progS ws fuel (68+64 * s+at') words).2.2]) (by simp [results,Tryz.results254,go_sem,q0,q1]) rfl ?_;rw [hr.o];have hw7:=bT hw hb7;refine⟨⟨a6,n6,c6,rfl, ?_,hn6,hc6,zal.mono hf6 hw.size⟩,(hw7.setCell (by simp) _).setCell (by simp) _⟩;exact(hi6.other (B:=w2.heap.size) hf6 lt1 0 _).other (B:=w2.heap.size) hf6 lt1 1 _
end
section
attribute [local go_sem ↓] kM kO
def clrAt (ws:LI) (fuel s:Int):Nat->LI×Int×Int
 |0=>(ws,fuel,0)
 |k+1=>if(clrAt ws fuel s k).2.2≠0 then clrAt ws fuel s k else eraS (clrAt ws fuel s k).1 (clrAt ws fuel s k).2.1 (2+s * 2+k)
theorem ztz {fuel s:Int} {k:Nat} (h: (clrAt ws fuel s k).2.2=0):clrAt ws fuel s (k+1)=eraS (clrAt ws fuel s k).1 (clrAt ws fuel s k).2.1 (2+s * 2+k):=by
 show(if _ then _ else _)=_
 rw [KJ (by simpa using h)]
theorem zrm {fuel s:Int} {k:Nat} (h: (clrAt ws fuel s k).2.2≠0):clrAt ws fuel s (k+1)=clrAt ws fuel s k:=by
 show(if _ then _ else _)=_
 rw [KK h]
theorem zni (ws:LI) (fuel s:Int): (eraS ws fuel s).1.length<=ws.length:=by
 unfold eraS
 split
 { simp }
 {
 split
 { simp }
 {
 rw [zbw];exact kQ _ } }
theorem zmc (ws:LI) (fuel s:Int) (k:Nat): (clrAt ws fuel s k).1.length<=ws.length:=by
 induction k with
 |zero=>exact kQ _
 |succ k ih=>
  show(if _ then _ else _:LI×Int×Int).1.length<=_
  split
  { exact ih }
  {
  exact kc (zni _ _ _) ih }
def clrS (ws:LI) (fuel s:Int):LI×Int×Int:=
 if slotE ws fuel s≠0 then([],0,slotE ws fuel s) else clrAt ws fuel s 2
def ClrInv (w:World) (ws:LI) (fuel s:Int) (k:Nat) (wr:World):Prop:=
 ∃a n c,wr.heap[w.heap.size]?=some (.cells #[.slice a n c,iV (clrAt ws fuel s k).2.1] 28 (0,0))/\wr.heap[w.heap.size+1]?=some (.cells #[nV,iV 0] 28 (0,0))
  /\zag wr a (clrAt ws fuel s k).1/\(clrAt ws fuel s k).1.length=n/\n<=maxLen/\n<=c/\(k=0\/zal (w.heap.size+2) a)/\bZ w wr/\(clrAt ws fuel s k).2.2=0
theorem clear_any (a:oA) (n c:Nat) (ws:LI) (fuel s:Int) (w:World)
 (h:zag w a ws) (hn:ws.length=n) (hm:n<=maxLen) (hcap:n<=c):
 Cq 323 #[.agg #[.slice a n c,iV fuel],iV s] w (zbf w (clrS ws fuel s)):=by
 have HC:=uH (fun W (h:zag W a ws)=>zcy a n c ws fuel s W h hn hm);have HN:=uH hn;clear hn;have b0:=uH (zai (kP w (.cells #[.slice a n c,iV fuel] 28)) (.cells #[nV,iV 0] 28));have b1:Hd (((w.alloc (.cells #[.slice a n c,iV fuel] 28)).alloc (.cells #[nV,iV 0] 28)).heap[w.heap.size+1]?=some (.cells #[nV,iV 0] 28 (0,0))):=by
  show _=_
  simpa using kP (w.alloc _) _
 have hw:bZ w ((w.alloc (.cells #[.slice a n c,iV fuel] 28)).alloc (.cells #[nV,iV 0] 28)):=
  bA2
 have i0:=h.bl hw;go_enter Tryz.func323,Tryz.ntmps323;go_wp2_with fail;generalize (w.alloc (.cells #[.slice a n c,iV fuel] 28)).alloc (.cells #[nV,iV 0] 28)=W at *;refine(zae HC _ i0).mono ?_;rintro e w1 ⟨rfl,hb1⟩;replace b0:=uH (zab b0.o hb1);replace b1:=uH (zab b1.o hb1);replace i0:=i0.bl hb1;replace hw:=bT hw hb1;clear hb1
 by_cases e1:slotE ws fuel s=0
 rotate_left
 {
 have r0:=zaa b1.o 0 _ rfl;have r1:=zaa b1.o 1 _ rfl;have f0:=zad b1.o 0;have f1:=zad b1.o 1;have e1' : (slotE ws fuel s !=0)=true:=by simpa using e1
 have hr:Hd (clrS ws fuel s= ([],0,slotE ws fuel s)):=by show _=_;unfold clrS;rw [KK e1]
 go_wp2;refine kT (v:=.tuple #[.agg #[nV,iV 0],iV (slotE ws fuel s)]) (by simp [results,Tryz.results323,go_sem,r0,r1]) rfl ?_;exact zaz hr.o ((hw.setCell (by simp) _).setCell (by simp) _) }
 have e1' : (slotE ws fuel s !=0)=false:=by simpa using e1
 have hr:Hd (clrS ws fuel s=clrAt ws fuel s 2):=by show _=_;unfold clrS;rw [KJ (by simpa using e1)]
 obtain ⟨-,-,p0,p1⟩:=zdt e1;clear e1;go_wp2
 go_loopw [16] (fun i wr=>∃k:Nat,k<=2/\i=iV k/\ClrInv w ws fuel s k wr) (fun i _=>2 - (intOf i).toNat)
 case atStart=>exact⟨0,KG _,rfl,a,n,c,b0.o,b1.o,i0,HN.o,hm,hcap,.inl rfl,hw,rfl⟩
 case round=>
  obtain ⟨k,hk,rfl,a4,n4,c4,B0,B1,hi4,hn4,hm4,hc4,hf4,hw4,he4⟩:=hrel
  by_cases hlt:k<2
  {
  have x0:=zaa B0 0 (.slice a4 n4 c4) rfl;have x1:=zaa B0 1 (iV (clrAt ws fuel s k).2.1) rfl;have y0:=zad B0 0;have y1:=zad B0 1;have lt0:=zak B0;have lt1:=zak B1;have HG:=uH (ztz he4);have HE:=uH (fun W' (hb:bZ wr W')=>zl0 a4 n4 c4 (clrAt ws fuel s k).1 (clrAt ws fuel s k).2.1 (2+s * 2+k) W' (hi4.bl hb) hn4 hm4);rw [<-HG.o] at HE;have hB0:=uH B0;have hB1:=uH B1;generalize (clrAt ws fuel s k).2.1=f4 at *;clear B0 B1 hn4 he4 hi4;have i3:IntKind.i64.wrap (2+s * 2+(k:Int))=2+s * 2+(k:Int):=by rw [kD];omega
  go_upto_region 8 with fail
  go_cut [8] (fun v8 wc=>v8=iV (clrAt ws fuel s (k+1)).2.2/\∃a5 n5 c5,wc.heap[w.heap.size]?=some (.cells #[.slice a5 n5 c5,iV (clrAt ws fuel s (k+1)).2.1] 28 (0,0))/\wc.heap[w.heap.size+1]?=some (.cells #[nV,iV 0] 28 (0,0))/\zag wc a5 (clrAt ws fuel s (k+1)).1/\(clrAt ws fuel s (k+1)).1.length=n5/\n5<=c5/\zal (w.heap.size+2) a5/\bZ w wc)
  case first=>
   go_region_with ((first| (go_at_call 237;refine(zhd s _ p0 p1).mono ?_;rintro e w5 ⟨rfl,rfl⟩)| (go_at_call 250;refine(zae HE _ ?_).mono ?_;exact(kS _ _).drew;rintro e w6 ⟨⟨a6,n6,c6,rfl,hi6,hn6,hc6,hf6⟩,hb6⟩;have hb7:bZ wr w6:=(Below.trans (kS _ wr).drew hb6);have q0:=zaa (zab hB0.o hb7) 0 _ rfl;have q1:=zaa (zab hB0.o hb7) 1 _ rfl;have q2:=zad (zab hB0.o hb7) 0;have q3:=zad (zab hB0.o hb7) 1)))
   all_goals
    go_wp2_with fail
    go_meet
    case rel=>
     have lt2:w.heap.size+2<=wr.heap.size:=by omega
     refine⟨rfl,a6,n6,c6, ?_, ?_,(hi6.other (B:=wr.heap.size) hf6 lt0 0 _).other (B:=wr.heap.size) hf6 lt0 1 _,hn6,hc6,zal.mono hf6 lt2,((bT hw4 hb7).setCell (p:=⟨w.heap.size,0,none⟩) (kQ _) _).setCell (p:=⟨w.heap.size,1,none⟩) (kQ _) _⟩
     {
     have:=zab hB0.o hb7;simp only [World.setCell,KP]
     simp [this] }
     {
     rw [ki _ _ _ _ (by simp),ki _ _ _ _ (by simp)];exact zab hB1.o hb7 }
  case rest=>
   obtain ⟨rfl,a5,n5,c5,C0,C1,hi5,hn5,hc5,hf5,hw5⟩:=hcut;have hC0:=uH C0;have hC1:=uH C1;have hn5' :n5<=maxLen:=by rw [<-hn5];exact kc (zmc _ _ _ _) (by rw [HN.o];exact hm)
   have x0:=zaa C0 0 (.slice a5 n5 c5) rfl;have x1:ce wc w.heap.size 1=some (iV (clrAt ws fuel s (k+1)).2.1):=zaa C0 1 _ rfl;have r0:=zaa C1 0 _ rfl;have r1:=zaa C1 1 _ rfl;have f0:=zad C1 0;have f1:=zad C1 1;clear C0 C1;have HN5:=uH hn5;clear hn5
   by_cases e5: (clrAt ws fuel s (k+1)).2.2=0
   {
   have e5' : ((clrAt ws fuel s (k+1)).2.2 !=0)=false:=by simpa using e5
   have E5:=uH e5;clear e5;go_wp2
   go_roundw
   case rel=>exact⟨k+1,by omega,by go_num,a5,n5,c5,hC0.o,hC1.o,hi5,HN5.o,hn5',hc5,.inr hf5,hw5,E5.o⟩
   case measure=>simp [intOf];omega }
   {
   have e5' : ((clrAt ws fuel s (k+1)).2.2 !=0)=true:=by simpa using e5
   have hend:Hd (clrS ws fuel s=clrAt ws fuel s (k+1)):=by
    show _=_
    rw [hr.o]
    rcases k with _|_|k
    { exact zrm e5 }
    { rfl }
    { omega }
   clear e5;go_wp2;refine kT (v:=.tuple #[.agg #[.slice a5 n5 c5,iV (clrAt ws fuel s (k+1)).2.1],iV (clrAt ws fuel s (k+1)).2.2]) (by simp [results,Tryz.results323,go_sem,r0,r1]) rfl ?_;rw [hend.o];refine⟨⟨a5,n5,c5,rfl, ?_,HN5.o,hc5,hf5.mono (by omega)⟩,(hw5.setCell (by simp) _).setCell (by simp) _⟩;exact(hi5.other hf5 (by omega) 0 _).other hf5 (by omega) 1 _ } }
  {
  have x0:=zaa B0 0 (.slice a4 n4 c4) rfl;have x1:=zaa B0 1 (iV (clrAt ws fuel s k).2.1) rfl;have r0:=zaa B1 0 _ rfl;have r1:=zaa B1 1 _ rfl;have f0:=zad B1 0;have f1:=zad B1 1;obtain rfl:k=2:=by omega
  have hf5:zal (w.heap.size+2) a4:=by rcases hf4 with e|e;(· omega);exact e
  have HN5:=uH hn4;have HE4:=uH he4;clear B0 B1 hn4 he4;go_wp2;refine kT (v:=.tuple #[.agg #[.slice a4 n4 c4,iV (clrAt ws fuel s 2).2.1],iV 0]) (by simp [results,Tryz.results323,go_sem,r0,r1]) rfl ?_;rw [hr.o];refine⟨⟨a4,n4,c4,by rw [HE4.o], ?_,HN5.o,hc4,hf5.mono (by omega)⟩,(hw4.setCell (by simp) _).setCell (by simp) _⟩;exact(hi4.other hf5 (by omega) 0 _).other hf5 (by omega) 1 _ }
end
section
attribute [local go_sem ↓] kM kO
theorem zkb {b off:Nat} (h:zag w (some ⟨b,off,none⟩) xs) (j:Nat) (v:Value) (hv: (vals xs)[j]?=some v):w.cell? ((⟨b,off,none⟩:Addr).add j)=some v:=by
 rcases h with rfl| ⟨b',off',e,hc⟩
 { simp [vals] at hv }
 cases e;have hj:j<xs.length:=by
  have:=(kY.1 hv).1
  simpa [vals] using this
 rw [zc9 xs j hj] at hv;cases hv;have hcj:=hc j hj
 by_cases hj0:j=0
 { subst hj0;simpa [Addr.add] using hcj }
 {
 simpa [Addr.add,hj0] using hcj }
theorem zqs {α:Type} (L cs:List α) (h:cs.length=L.length):splice L 0 cs=cs:=by
 unfold splice
 simp [h]
def BodyAns (w:World) (m:Nat) (xs:LI) (e:Ending) (w' :World):Prop:=
 ∃g,w.heap.size<=g/\e=.returned (sV g m m)/\zat w' g xs/\bZ w w'
theorem znl (a:oA) (c:Nat) (ws:LI) (fuel s:Int) (m p:Nat) (w:World) (h:zag w a ws) (hn:ws.length=192) (hcap:192<=c) (hs0:0<=s) (hs1:s<=1) (hm:m<=40) (hp: (p:Int)=68+64 * s):
 Cq 182 #[.agg #[.slice a 192 c,iV fuel],iV s,iV m] w (BodyAns w m ((ws.drop p).take m)):=by
 have HB:=uH (fun W=>zg7 s W hs0 hs1);rw [<-hp] at HB;have hp1:p<=132:=by omega
 obtain ⟨b,off,rfl⟩: ∃b off,a=some ⟨b,off,none⟩:=by
  rcases h with rfl| ⟨b,off,rfl,_⟩
  { simp at hn }
  { exact⟨b,off,rfl⟩ }
 have hlen: ((ws.drop p).take m).length=m:=by simp;omega
 have hx:zag w (some ⟨b,off+p,none⟩) ((ws.drop p).take m):=(h.drop p).take m;obtain ⟨xs,hxs⟩: ∃xs,xs= (ws.drop p).take m:=⟨_,rfl⟩;rw [<-hxs] at hlen hx|-;have HL:=uH hlen;clear hlen hxs hp hn;have hw:bZ w (w.alloc (.cells #[.slice (some ⟨b,off,none⟩) 192 c,iV fuel] 28)):=bA1;have b0:=uH (kP w (.cells #[.slice (some ⟨b,off,none⟩) 192 c,iV fuel] 28));have hmk:=zes m (w.alloc (.cells #[.slice (some ⟨b,off,none⟩) 192 c,iV fuel] 28)) (by omega);have hsz: (w.alloc (.cells #[.slice (some ⟨b,off,none⟩) 192 c,iV fuel] 28)).heap.size=w.heap.size+1:=by simp
 go_enter Tryz.func182,Tryz.ntmps182;go_upto_region 2 with fail
 generalize w.alloc (.cells #[.slice (some ⟨b,off,none⟩) 192 c,iV fuel] 28)=W at *;have b1:=uH (kP W (.cells (vals (List.replicate m 0)).toArray 3));rw [hsz] at b1;replace b0:=uH (zai b0.o (.cells (vals (List.replicate m 0)).toArray 3));replace hw:=hw.alloc hw.size (.cells (vals (List.replicate m 0)).toArray 3);clear hmk;replace hx:=hx.bl hw;generalize W.alloc (.cells (vals (List.replicate m 0)).toArray 3)=W1 at *;have x0:=zaa b0.o 0 (.slice (some ⟨b,off,none⟩) 192 c) rfl;have j3: (p:Int)<=192:=by omega
 have j4: ¬c=p:=by omega
 have j5: (192:Int)<=(c:Int):=by omega
 clear hsz
 go_region_held3 (fun w' =>w'.cell? ⟨w.heap.size,0,none⟩=some (.slice (some ⟨b,off,none⟩) 192 c)) (first|assumption|go_keep)
  ((first| (go_at_call 238;refine(zae HB _).mono ?_;rintro e w5 ⟨rfl,rfl⟩)| (refine step_copy_splice (by rfl) _ _ _ _ (by rfl) 3 Tryz.underlying26 zea (some ⟨w.heap.size+1,0,none⟩) (some ⟨b,off+p,none⟩) m m (192 - p) (c - p) (by rfl) (by rfl) (w.heap.size+1) 0 (vals (List.replicate m 0)) 3 b1.o (vals xs) (by rw [za3,HL.o];exact(Nat.min_eq_right (by omega)).symm) (fun _=>⟨rfl,_,rfl,fun j v hv=>zkb hx j v hv⟩) (by simp [za3,HL.o]) (zbu xs) (w.heap.size+1) W1 ((kS _ _).drew) (kQ _) ?_;intro w4 hg4 hb4;have z0:w4.cell? ⟨w.heap.size,0,none⟩=some (.slice (some ⟨b,off,none⟩) 192 c):=(by rw [hb4.cell (by simp)];exact x0))))
 go_wp2;go_ret;refine⟨w.heap.size+1,by omega,rfl, ?_,hw.trans (hb4.mono (by omega))⟩;have:=hg4.out;rw [zqs _ _ (by simp [za3,HL.o])] at this;exact this
def bodyS (ws:LI) (fuel s m:Int):LI×Int:=
 if slotE ws fuel s≠0 then([],slotE ws fuel s) else if inB m 0 40=false then([],2) else((ws.drop (68+64 * s).toNat).take m.toNat,0)
theorem zq0 (a:oA) (n c:Nat) (ws:LI) (fuel s m:Int) (w:World) (h:zag w a ws) (hn:ws.length=n) (hm:n<=maxLen) (hcap:n<=c):
 Cq 324 #[.agg #[.slice a n c,iV fuel],iV s,iV m] w (Reads w (bodyS ws fuel s m)):=by
 have HC:=uH (fun W (h:zag W a ws)=>zcy a n c ws fuel s W h hn hm);have HN:=uH hn;clear hn;have b0:=uH (kP w (.cells #[.slice a n c,iV fuel] 28));have hw:bZ w (w.alloc (.cells #[.slice a n c,iV fuel] 28)):=bA1;have i0:=h.bl hw;go_enter Tryz.func324,Tryz.ntmps324;go_wp2_with fail;generalize w.alloc (.cells #[.slice a n c,iV fuel] 28)=W at *;refine(zae HC _ i0).mono ?_;rintro e w1 ⟨rfl,hb1⟩;replace b0:=uH (zab b0.o hb1);replace i0:=i0.bl hb1;replace hw:=bT hw hb1;clear hb1
 by_cases e1:slotE ws fuel s=0
 rotate_left
 {
 have e1' : (slotE ws fuel s !=0)=true:=by simpa using e1
 have hr:Hd (bodyS ws fuel s m= ([],slotE ws fuel s)):=by show _=_;unfold bodyS;rw [KK e1]
 go_wp2;go_ret2;exact zfw hr.o hw }
 have e1' : (slotE ws fuel s !=0)=false:=by simpa using e1
 obtain ⟨-,pl,p0,p1⟩:=zdt e1;obtain rfl:n=192:=by rw [<-HN.o,pl]
 have E1:=uH e1;clear e1 pl;go_wp2_with fail;refine(zdh m 0 40 _).mono ?_;rintro e w2 ⟨rfl,rfl⟩;cases e2:inB m 0 40
 {
 have hr:Hd (bodyS ws fuel s m= ([],2)):=by show _=_;unfold bodyS;rw [KJ (by simpa using E1.o),KK e2]
 clear e2;go_wp2;go_ret2;exact zfw hr.o hw }
 have q2:0<=m/\m<=40:=by unfold inB at e2;simpa using e2
 obtain ⟨j,rfl⟩:=Km q2.1;obtain ⟨p,hp⟩: ∃p:Nat,(p:Int)=68+64 * s:=⟨(68+64 * s).toNat,by omega⟩;have hr:Hd (bodyS ws fuel s j= ((ws.drop p).take j,0)):=by show _=_;unfold bodyS;rw [KJ (by simpa using E1.o),KJ (by simp [e2]),<-hp];simp
 clear e2;have hl:Hd (((ws.drop p).take j).length=j):=by show _=_;have:=HN.o;simp;omega
 have x0:=zaa b0.o 0 (.slice a 192 c) rfl;have x1:=zaa b0.o 1 (iV fuel) rfl;have HB:=uH (znl a c ws fuel s j p w2 i0 HN.o hcap p0 p1 (by omega) hp);clear hp;go_wp2_with fail;refine(zae HB).mono ?_;rintro e w3 ⟨g,hg,rfl,ho,hb3⟩;go_wp2;go_ret2;refine⟨⟨some ⟨g,0,none⟩,j,j,by rw [hr.o];rfl,by rw [hr.o];exact ho.isInts,by rw [hr.o];exact hl.o,kQ _,zal.here (kc hw.size hg) 0⟩,(bT hw hb3)⟩
end
section
attribute [local go_sem ↓] kM kO
def sealS (ws:LI) (fuel s long name:Int):LI×Int×Int:=
 if slotE ws fuel s≠0 then([],0,slotE ws fuel s) else if sealB long name=false then([],0,3) else progS ws fuel (64+64 * s) (headL long name)
theorem zpi {b:Nat} {v0 v1 v2 v3:Int} {t:TypeId} (h:w.heap[b]?=some (.cells #[iV v0,iV v1,iV v2,iV v3] t (0,0))):zag w (some ⟨b,0,none⟩) [v0,v1,v2,v3]:=by
 refine .inr ⟨b,0,rfl,fun i hi=> ?_⟩
 simp at hi
 rcases i with _|_|_|_|i
 { exact zaa h 0 _ rfl }
 { exact zaa h 1 _ rfl }
 { exact zaa h 2 _ rfl }
 { exact zaa h 3 _ rfl }
 {
 omega }
theorem seal_any (a:oA) (n c:Nat) (ws:LI) (fuel s long name:Int) (w:World)
 (h:zag w a ws) (hn:ws.length=n) (hm:n<=maxLen):
 Cq 256 #[.agg #[.slice a n c,iV fuel],iV s,iV long,iV name] w (zbf w (sealS ws fuel s long name)):=by
 have HC:=uH (fun W (h:zag W a ws)=>zcy a n c ws fuel s W h hn hm);have HN:=uH hn;clear hn;have b0:=uH (zai (kP w (.cells #[.slice a n c,iV fuel] 28)) (.cells #[nV,iV 0] 28));have b1:Hd (((w.alloc (.cells #[.slice a n c,iV fuel] 28)).alloc (.cells #[nV,iV 0] 28)).heap[w.heap.size+1]?=some (.cells #[nV,iV 0] 28 (0,0))):=by
  show _=_
  simpa using kP (w.alloc _) _
 have hw:bZ w ((w.alloc (.cells #[.slice a n c,iV fuel] 28)).alloc (.cells #[nV,iV 0] 28)):=
  bA2
 have i0:=h.bl hw;go_enter Tryz.func256,Tryz.ntmps256;go_wp2_with fail;generalize (w.alloc (.cells #[.slice a n c,iV fuel] 28)).alloc (.cells #[nV,iV 0] 28)=W at *;refine(zae HC _ i0).mono ?_;rintro e w1 ⟨rfl,hb1⟩;replace b0:=uH (zab b0.o hb1);replace b1:=uH (zab b1.o hb1);replace i0:=i0.bl hb1;replace hw:=bT hw hb1;clear hb1;have r0:=zaa b1.o 0 _ rfl;have r1:=zaa b1.o 1 _ rfl;have f0:=zad b1.o 0;have f1:=zad b1.o 1;have lt0:=zak b0.o;have lt1:=zak b1.o
 by_cases e1:slotE ws fuel s=0
 rotate_left
 {
 have e1' : (slotE ws fuel s !=0)=true:=by simpa using e1
 have hr:Hd (sealS ws fuel s long name= ([],0,slotE ws fuel s)):=by show _=_;unfold sealS;rw [KK e1]
 go_wp2;refine kT (v:=.tuple #[.agg #[nV,iV 0],iV (slotE ws fuel s)]) (by simp [results,Tryz.results256,go_sem,r0,r1]) rfl ?_;exact zaz hr.o ((hw.setCell (by simp) _).setCell (by simp) _) }
 have e1' : (slotE ws fuel s !=0)=false:=by simpa using e1
 have E1:=uH e1;clear e1;go_wp2_with fail;refine(zhs long name _).mono ?_;rintro e w2 ⟨rfl,rfl⟩;cases e2:sealB long name
 {
 have hr:Hd (sealS ws fuel s long name= ([],0,3)):=by show _=_;unfold sealS;rw [KJ (by simpa using E1.o),KK e2]
 clear e2;go_wp2;refine kT (v:=.tuple #[.agg #[nV,iV 0],iV 3]) (by simp [results,Tryz.results256,go_sem,r0,r1]) rfl ?_;exact zaz hr.o ((hw.setCell (by simp) _).setCell (by simp) _) }
 have hr:Hd (sealS ws fuel s long name=progS ws fuel (64+64 * s) (headL long name)):=by show _=_;unfold sealS;rw [KJ (by simpa using E1.o),KJ (by simp [e2])]
 clear e2;obtain ⟨-,-,p0,p1⟩:=zdt E1.o;clear r0 r1 f0 f1;go_wp2_with fail;refine(zhx long name _).mono ?_;rintro e w3 ⟨rfl,hb3⟩;have hb4:=hb3.alloc hb3.size (.cells #[iV long,iV name,iV (xorW long),iV (xorW name)] 235);have B2:=uH (kP w3 (.cells #[iV long,iV name,iV (xorW long),iV (xorW name)] 235));replace b0:=uH (zab b0.o hb4);replace b1:=uH (zab b1.o hb4);replace i0:=i0.bl hb4;replace hw:=bT hw hb4;have hge:=hb3.size;clear hb3 hb4;go_upto_region 7 with fail
 generalize w3.alloc (.cells #[iV long,iV name,iV (xorW long),iV (xorW name)] 235)=w4 at *;have x0:=zaa b0.o 0 (.slice a n c) rfl;have x1:=zaa b0.o 1 (iV fuel) rfl;replace lt0:=zak b0.o;replace lt1:=zak b1.o;have i2:=zpi B2.o;have HP:=uH (fun W' (hb:bZ w4 W')=>zf9 a n c ws fuel (64+64 * s) (some ⟨w3.heap.size,0,none⟩) 4 4 (headL long name) W' (i0.bl hb) HN.o hm (i2.bl hb) rfl (by decide) (by omega))
 go_region_held3 (fun w' =>w'.cell? ⟨w.heap.size,0,none⟩=some (.slice a n c)/\w'.cell? ⟨w.heap.size,1,none⟩=some (iV fuel)) (first|exact⟨by assumption,by assumption⟩|go_keep)
  ((first| (go_at_call 179;refine(zey s _ p0 p1).mono ?_;rintro e w5 ⟨rfl,rfl⟩)| (go_at_call 252;refine(zae HP _ ?_).mono ?_;exact(kS _ _).drew;rintro e w6 ⟨⟨a6,n6,c6,rfl,hi6,hn6,hc6,hf6⟩,hb6⟩;have hb7:bZ w4 w6:=(Below.trans (kS _ w4).drew hb6);have y0:w6.cell? ⟨w.heap.size,0,none⟩=some (.slice a n c):=(by rw [hb7.cell lt0];exact x0);have y1:w6.cell? ⟨w.heap.size,1,none⟩=some (iV fuel):=(by rw [hb7.cell lt0];exact x1);have q0:=zaa (zab b1.o hb7) 0 _ rfl;have q1:=zaa (zab b1.o hb7) 1 _ rfl;have q2:=zad (zab b1.o hb7) 0;have q3:=zad (zab b1.o hb7) 1)))
 go_wp2;refine kT (v:=.tuple #[.agg #[.slice a6 n6 c6,iV (progS ws fuel (64+64 * s) (headL long name)).2.1],iV (progS ws fuel (64+64 * s) (headL long name)).2.2]) (by simp [results,Tryz.results256,go_sem,q0,q1]) rfl ?_;rw [hr.o];have hw7:=bT hw hb7;refine⟨⟨a6,n6,c6,rfl, ?_,hn6,hc6,zal.mono hf6 hw.size⟩,(hw7.setCell (by simp) _).setCell (by simp) _⟩;exact(hi6.other (B:=w4.heap.size) hf6 lt1 0 _).other (B:=w4.heap.size) hf6 lt1 1 _
end
section
attribute [local go_sem ↓] kM kO
def headB (ws:LI) (p:Nat):Bool:=
 sealB (ws.getD p 0) (ws.getD (p+1) 0)&&decide (ws.getD (p+2) 0=xorW (ws.getD p 0)/\ws.getD (p+3) 0=xorW (ws.getD (p+1) 0))
def imgS (ws:LI) (fuel s:Int):LI×Int×Int:=
 if slotE ws fuel s≠0 then([],0,slotE ws fuel s) else if headB ws (64+64 * s).toNat=false then([],0,4)
 else((ws.drop (68+64 * s).toNat).take (ws.getD (64+64 * s).toNat 0).toNat,ws.getD ((64+64 * s).toNat+1) 0,0)
def Shows (w:World) (r:LI×Int×Int) (e:Ending) (w' :World):Prop:=
 (∃a n c,e=.returned (.tuple #[.slice a n c,iV r.2.1,iV r.2.2])/\zag w' a r.1/\r.1.length=n/\n<=c/\zal w.heap.size a)/\bZ w w'
theorem zhg {w' :World} {r:LI×Int×Int} {err:Int} (hr:r= ([],0,err)) (hb:bZ w w'):Shows w r (.returned (.tuple #[nV,iV 0,iV err])) w' :=by
 subst hr;exact⟨⟨none,0,0,rfl,.inl rfl,rfl,kQ _,zal.nil _⟩,hb⟩
theorem eqHead (a0 a1 a2 a3 b0 b1 b2 b3:Int) (w:World): (Op.equalIn 10000 235 (.agg #[iV a0,iV a1,iV a2,iV a3]) (.agg #[iV b0,iV b1,iV b2,iV b3])).run Tryz.prog w=.ok (decide (a0=b0/\a1=b1/\a2=b2/\a3=b3)) w:=by
 have u3:=Tryz.underlying3;have a3' :=Tryz.isAgg3;have z3:=Tryz.sizeOf3;rw [show(10000:Nat)=9999+1 from rfl,Op.equalIn];simp only [Sem.run_bind,run_underlying Tryz.underlying235,Result.andThen_ok];simp only [Std.Legacy.Range.forIn_eq_forIn_range',Std.Legacy.Range.size,Nat.sub_zero,Nat.add_sub_cancel,Nat.div_one,List.range'_succ,List.range'_zero,List.forIn_cons,List.forIn_nil];go_simp
 by_cases h1:a0=b0<;>by_cases h2:a1=b1<;>by_cases h3:a2=b2<;>by_cases h4:a3=b3<;>simp [h1,h2,h3,h4]
theorem take4 {p:Nat} (h:p+4<=ws.length): (ws.drop p).take 4= [ws.getD p 0,ws.getD (p+1) 0,ws.getD (p+2) 0,ws.getD (p+3) 0]:=by
 apply zr4
 { simp;omega }
 {
 intro i hi
 simp at hi
 rcases i with _|_|_|_|i
 { simp }
 { simp }
 { simp }
 { simp }
 {
 omega } }
attribute [local go_sem] eqHead
theorem zag.below4 {w1 w2 w4:World} {a:oA} (h:zag w1 a xs) (hb:bZ w1 w2) (hb4:Below w1.heap.size w2 w4):zag w4 a xs:=
 h.bl (hb.trans hb4)
theorem zmf (a:oA) (n c:Nat) (ws:LI) (fuel s:Int) (w:World) (h:zag w a ws) (hn:ws.length=n) (hm:n<=maxLen) (hcap:n<=c):
 Cq 112 #[.agg #[.slice a n c,iV fuel],iV s] w (Shows w (imgS ws fuel s)):=by
 have HC:=uH (fun W (h:zag W a ws)=>zcy a n c ws fuel s W h hn hm);have HN:=uH hn;clear hn;have b0:=uH (kP w (.cells #[.slice a n c,iV fuel] 28));have hw:bZ w (w.alloc (.cells #[.slice a n c,iV fuel] 28)):=bA1;have i0:=h.bl hw;go_enter Tryz.func112,Tryz.ntmps112;go_wp2_with fail;generalize w.alloc (.cells #[.slice a n c,iV fuel] 28)=W at *;refine(zae HC _ i0).mono ?_;rintro e w1 ⟨rfl,hb1⟩;replace b0:=uH (zab b0.o hb1);replace i0:=i0.bl hb1;replace hw:=bT hw hb1;clear hb1
 by_cases e1:slotE ws fuel s=0
 rotate_left
 {
 have e1' : (slotE ws fuel s !=0)=true:=by simpa using e1
 have hr:Hd (imgS ws fuel s= ([],0,slotE ws fuel s)):=by show _=_;unfold imgS;rw [KK e1]
 go_wp2;refine kT (v:=.tuple #[nV,iV 0,iV (slotE ws fuel s)]) (by simp [results,Tryz.results112,go_sem]) rfl ?_;exact zhg hr.o hw }
 have e1' : (slotE ws fuel s !=0)=false:=by simpa using e1
 obtain ⟨-,pl,p0,p1⟩:=zdt e1;obtain rfl:n=192:=by rw [<-HN.o,pl]
 have E1:=uH e1;obtain ⟨p,hp⟩: ∃p:Nat,(p:Int)=64+64 * s:=⟨(64+64 * s).toNat,by omega⟩;have hp1:p<=128:=by omega
 have hr:Hd (imgS ws fuel s=if headB ws p=false then([],0,4) else((ws.drop (p+4)).take (ws.getD p 0).toNat,ws.getD (p+1) 0,0)):=by
  show _=_
  unfold imgS;rw [KJ (by simpa using e1),<-hp,show 68+64 * s= ((p+4:Nat):Int) by omega,kp,kp]
 have HP:=uH (fun W=>zey s W p0 p1);rw [<-hp] at HP;have HBd:=uH (fun W (i:zag W a ws) (m:Nat) (hm:m<=40)=>znl a c ws fuel s m (p+4) W i HN.o hcap p0 p1 hm (by omega));have ht:=take4 (ws:=ws) (p:=p) (by rw [pl];omega);have HH:=uH (show headB ws p= (sealB (ws.getD p 0) (ws.getD (p+1) 0)&&decide (ws.getD (p+2) 0=xorW (ws.getD p 0)/\ws.getD (p+3) 0=xorW (ws.getD (p+1) 0))) from rfl);obtain ⟨b,off,rfl⟩: ∃b off,a=some ⟨b,off,none⟩:=by
  rcases h with rfl| ⟨b,off,rfl,_⟩
  { simp at pl }
  { exact⟨b,off,rfl⟩ }
 have hx:=(i0.drop p).take 4;rw [ht] at hx;have HL:=uH (show((ws.drop (p+4)).take (ws.getD p 0).toNat).length=min (ws.getD p 0).toNat (192 - (p+4)) by simp [pl]);generalize ws.getD p 0=h0 at *;generalize ws.getD (p+1) 0=h1 at *;generalize ws.getD (p+2) 0=h2 at *;generalize ws.getD (p+3) 0=h3 at *;clear e1 pl ht hp;have ltw:=zak b0.o;have b1:=uH (kP w1 (.cells #[iV 0,iV 0,iV 0,iV 0] 235));have hb1:bZ w1 (w1.alloc (.cells #[iV 0,iV 0,iV 0,iV 0] 235)):=bA1;replace b0:=uH (zab b0.o hb1);have hx1:=hx.bl hb1;go_upto_region 5 with fail
 generalize w1.alloc (.cells #[iV 0,iV 0,iV 0,iV 0] 235)=w2 at *;have x0:=zaa b0.o 0 (.slice (some ⟨b,off,none⟩) 192 c) rfl;have j3: (p:Int)<=192:=by omega
 have j4: ¬c=p:=by omega
 have j5: (192:Int)<=(c:Int):=by omega
 go_region_held3 (fun w' =>w'.cell? ⟨w.heap.size,0,none⟩=some (.slice (some ⟨b,off,none⟩) 192 c)) (first|assumption|go_keep)
  ((first| (go_at_call 179;refine(zae HP _).mono ?_;rintro e w5 ⟨rfl,rfl⟩)| (refine step_copy_splice (by rfl) _ _ _ _ (by rfl) 3 Tryz.underlying26 zea (some ⟨w1.heap.size,0,none⟩) (some ⟨b,off+p,none⟩) 4 4 (192 - p) (c - p) (by rfl) (by rfl) w1.heap.size 0 (vals [0,0,0,0]) 235 b1.o (vals [h0,h1,h2,h3]) ((Nat.min_eq_right (show 4<=192 - p by omega)).symm) (fun _=>⟨rfl,_,rfl,fun j v hv=>zkb hx1 j v hv⟩) (kQ _) (zbu _) w1.heap.size w2 ((kS _ _).drew) (kQ _) ?_;intro w4 hg4 hb4;have z0:w4.cell? ⟨w.heap.size,0,none⟩=some (.slice (some ⟨b,off,none⟩) 192 c):=(by rw [hb4.cell ltw];exact x0))))
 have hg5:Hd (w4.heap[w1.heap.size]?=some (.cells #[iV h0,iV h1,iV h2,iV h3] 235 (0,0))):=hg4.out;have y0:=zaa hg5.o 0 _ rfl;have y1:=zaa hg5.o 1 _ rfl;have y2:=zaa hg5.o 2 _ rfl;have y3:=zaa hg5.o 3 _ rfl;have i4:zag w4 (some ⟨b,off,none⟩) ws:=i0.below4 hb1 hb4;go_wp2_with fail;go_quiet (fail);go_upto_region 7 with fail
 replace i4:zag (w4.drewN nq) (some ⟨b,off,none⟩) ws:=i4.drewN nq;replace hb4:Below w1.heap.size w2 (w4.drewN nq):=kA hb4 nq;replace hg5:Hd ((w4.drewN nq).heap[w1.heap.size]?=some (.cells #[iV h0,iV h1,iV h2,iV h3] 235 (0,0))):=hg5.o;clear y0 y1 y2 y3 z0 hg4;obtain ⟨w5,hw5⟩: ∃w5,w5=w4.drewN nq:=⟨_,rfl⟩;rw [<-hw5] at i4 hb4 hg5|-;clear hw5;have y0:=zaa hg5.o 0 _ rfl;have y1:=zaa hg5.o 1 _ rfl;have y2:=zaa hg5.o 2 _ rfl;have y3:=zaa hg5.o 3 _ rfl;have HS:=uH (fun W=>zhs h0 h1 W)
 go_cut [38] (fun v38 wc=>v38=.bool (!headB ws p)/\bZ w5 wc)
 case first=>
  cases hb:sealB h0 h1
  {
  rw [hb] at HS;have hh:Hd (headB ws p=false):=by show _=_;rw [HH.o,hb];rfl
  clear hb;go_quiet ((go_at_call 180;refine Calls.quiet_of_same (zae HS _)));go_wp2_with fail
  go_meet
  case rel=>exact⟨congrArg Value.bool (by rw [hh.o];rfl),kA (kS _ _) _⟩ }
  {
  rw [hb] at HS;have HB:=uH hb;clear hb
  go_region_with ((first| (go_at_call 180;refine(zae HS _).mono ?_;rintro e wq ⟨rfl,rfl⟩)| (go_at_call 181;refine(zhx h0 h1 _).mono ?_;rintro e w6 ⟨rfl,hb6⟩;have hb7:bZ w5 w6:=Below.trans (kS _ w5).drew hb6;have q0:=zaa (zab hg5.o hb7) 0 _ rfl;have q1:=zaa (zab hg5.o hb7) 1 _ rfl;have q2:=zaa (zab hg5.o hb7) 2 _ rfl;have q3:=zaa (zab hg5.o hb7) 3 _ rfl)))
  all_goals
   go_wp2_with fail
   go_meet
   case rel=>exact⟨congrArg Value.bool (by rw [HH.o,HB.o];simp),hb7⟩ }
 case rest=>
  obtain ⟨rfl,hbc⟩:=hcut;obtain ⟨wB,rfl⟩: ∃wB:World,wB=wc:=⟨_,rfl⟩;have hwB:bZ w wB:=hw.trans (((hb1.trans hb4).mono hw.size).trans (hbc.mono (kc hw.size (hb1.trans hb4).size)));cases hb:headB ws p
  {
  rw [hb] at hr;have hr' :Hd (imgS ws fuel s= ([],0,4)):=by show _=_;rw [hr.o];rfl
  clear hb;go_wp2;refine kT (v:=.tuple #[nV,iV 0,iV 4]) (by simp [results,Tryz.results112,go_sem]) rfl ?_;exact zhg hr'.o hwB }
  {
  rw [hb] at hr;have hsl:sealB h0 h1=true:=by have:=HH.o;rw [hb] at this;have:=this.symm;simp at this;exact this.1
  have q0:1<=h0/\h0<=40:=by unfold sealB inB at hsl;simp at hsl;exact hsl.1
  obtain ⟨m,rfl⟩:=Km (show 0<=h0 by omega);have hr' :Hd (imgS ws fuel s= ((ws.drop (p+4)).take m,h1,0)):=by show _=_;rw [hr.o];rfl
  have hl:Hd (((ws.drop (p+4)).take m).length=m):=by show _=_;have:=HN.o;simp;omega
  have b4:=zab (hb4.block _ ltw▸b0.o) hbc;have x4:=zaa b4 0 (.slice (some ⟨b,off,none⟩) 192 c) rfl;have x5:=zaa b4 1 (iV fuel) rfl;have HB:=uH (zae HBd wB (i4.bl hbc) m (by omega));clear hb hsl HBd HL b4;go_wp2_with fail;refine(zae HB).mono ?_;rintro e w6 ⟨g,hg,rfl,ho,hb6⟩;go_wp2;refine kT (v:=.tuple #[sV g m m,iV h1,iV 0]) (by simp [results,Tryz.results112,go_sem]) rfl ?_;refine⟨⟨some ⟨g,0,none⟩,m,m,by rw [hr'.o],by rw [hr'.o];exact ho.isInts,by rw [hr'.o];exact hl.o,kQ _,zal.here (kc hwB.size hg) 0⟩,(bT hwB hb6)⟩ }
end
end Go.Proofs.YthmekfcgdfckaaaGreatDoor
