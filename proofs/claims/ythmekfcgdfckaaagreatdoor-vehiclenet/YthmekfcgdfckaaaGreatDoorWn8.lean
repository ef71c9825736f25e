/- The contracts of meta.ImageText, RootText, ReleaseText, Name, ImageName. The contracts of meta.Name, ImageName. What package unit says, as plain functions: 'stOf', 'unE', 'msE', 'heE', 'doU', 'pieceS', 'prepS', 'comS', 'aboS', 'hearS'. No program in this text. What package trust says, as plain functions: 'sigE', 'trE', 'cntE', 'cntN', 'csE', 'turnE', 'allE', 'crE', 'meantB', 'takeE', 'takeT'. No program in this text. What package gate says, as plain functions: 'gOf', 'gtE', 'kepG', 'noteG', 'gvUp', 'gHear', 'gDue'. No program in this text. Signatures, roots and lists in memory: 'IsSigs', 'IsRoots', 'IsLists'; what is trusted, and an offer, as values ('trv', 'offv'). Units and messages in memory: 'unO', 'OwnU', 'msv', 'IsMsgs'; what one block's turning leaves ('turns'). Plain facts for LogHolds and LogGoes: the flash behind an Append is a log, its records, and that it can be done again. -/
import Derived.Test.YthmekfcgdfckaaaGreatDoorWn7
import Derived.Deep.RegionHeld3
import Derived.Deep.DeepCutAuto
import Derived.Test.YthmekfcgdfckaaaGreatDoorWn5
import Derived.Test.YthmekfcgdfckaaaGreatDoorWn6
import Derived.Maps.AppendAt
import Derived.Test.YthmekfcgdfckaaaGreatDoorWn3
import Derived.Laws.EntriesVeiled
set_option maxRecDepth 1000000
set_option maxHeartbeats 0
namespace Go.Proofs.YthmekfcgdfckaaaGreatDoor
variable {s:ByteArray} {xs:List Int} {w w' :World} {a:Option Addr} {ls:List (List Int)} {n B:Nat}
section
open Go.RowKit
def imgTx (xs:List Int):List UInt8:=if imgE xs=0 then imgT xs else []
def zd4 (v:Int) (ks:List Int) (t:Int):List UInt8:=if rootE v ks t=0 then rootT v ks t else []
def relTx (v u:Int) (ts:List T3):List UInt8:=if relE v u ts=0 then relT v u ts else []
theorem zf1 (a b:List UInt8):bs a++bs b=bs (a++b):=by
  apply ByteArray.ext
  simp [bs]
theorem app_two (a b:List UInt8) (h:s=bs a):s++bs b=bs (a++b):=by rw [h,zf1]
theorem zn9 {t:ByteArray} (a b c d:List UInt8) (h:s=bs a) (h2:t=bs c):s++bs b++t++bs d=bs (a++b++c++d):=by rw [h,h2,zf1,zf1,zf1]
theorem zn4 {t:ByteArray} {q:Int} (h:s=t):Ending.returned (.tuple #[.string s,.int .i64 q])=.returned (.tuple #[.string t,.int .i64 q]):=by rw [h]
theorem ztm (h:imgE xs=0): ∀x∈xs,I64 x:=fun x hx=>by
  have:=(zlv h).2 x hx;exact⟨by omega,by omega⟩
theorem zg9 (a:Option Addr) (n c:Nat) (xs:List Int) (w:World) (h:zag w a xs) (hn:xs.length=n) (hm:n≤maxLen) (hT:Tab w):
    Calls Tryz.prog 103 #[.slice a n c] w fun e w' =>e=.returned (.tuple #[.string (bs (imgTx xs)),.int .i64 (imgE xs)])∧Below w.heap.size w w' :=by
  have HC:=hide (zd9 a n c xs w h hn hm)
  by_cases h0:imgE xs=0
  {
  have HX:=hide (show imgTx xs=imgT xs by unfold imgTx;rw [if_pos h0]);have HW:=hide (zdp a n c xs w h hn (ztm h0) (by have:=(zlv h0).1;omega) hT);have hl:=hide (zeh (ztm h0) (by have:=(zlv h0).1;omega));rw [h0] at HC;have hadd: ¬9223372036854775807<6+(bs (wr xs)).size:=by rw [zdk];have:=hl.out;omega
  clear hn;go_enter Tryz.func103,Tryz.ntmps103
  go_wp2_with (first| (go_at_call 167;refine(zae HC).mono ?_;rintro e w' ⟨rfl,rfl⟩)| (go_at_call 168;refine(zae HW).mono ?_;rintro e w1 ⟨rfl,hb1⟩))
  go_ret2;refine⟨?_,hb1⟩;rw [HX.out,h0];exact zn4 (app_two imgW (wr xs) rfl)
  }
  {
  have hb: (imgE xs !=0)=true:=by simpa using h0
  have HX:=hide (show imgTx xs= [] by unfold imgTx;rw [if_neg h0]);clear hn h0;generalize imgE xs=q at *;go_enter Tryz.func103,Tryz.ntmps103
  go_wp2_with (go_at_call 167;refine(zae HC).mono ?_;rintro e w' ⟨rfl,rfl⟩)
  go_ret2;rw [HX.out];exact⟨rfl,Below.refl _ _⟩
  }
theorem root_I64 {v:Int} {ks:List Int} {t:Int} (h:rootE v ks t=0): (∀x∈ks,I64 x)∧∀x∈ [v,t],I64 x:=by
  obtain ⟨h1,h2,h3,h4,h5⟩:=zft h;refine⟨fun x hx=> ?_,fun x hx=> ?_⟩
  {
  have:=keys_in h5 x hx;exact⟨by omega,by omega⟩
  }
  {
  simp at hx
  rcases hx with rfl|rfl
  { exact⟨by omega,by omega⟩ }
  {
  exact⟨by omega,by omega⟩
  }
  }
theorem zf6 (h:zag w a xs):zag w.drew a xs:=h
theorem zaf {w1 W:World} (h:Below w1.heap.size w1 W) (o:Obj):Below w1.heap.size w1 (W.alloc o):=h.alloc h.size o
theorem keep3 {w1 W:World} {b:Nat} {v0 v1 v2:Value} {t:TypeId} (hb:Below w1.heap.size w1 W) (h:w1.heap[b]?=some (.cells #[v0,v1,v2] t (0,0))):
    W.cell? ⟨b,0,none⟩=some v0∧W.cell? ⟨b,1,none⟩=some v1∧W.cell? ⟨b,2,none⟩=some v2∧Below w1.heap.size w1 W:=by
  have h' :=zab h hb;exact⟨zaa h' 0 _ rfl,zaa h' 1 _ rfl,zaa h' 2 _ rfl,hb⟩
theorem znz (v:Int) (a:Option Addr) (n c:Nat) (t:Int) (xs:List Int) (w:World) (h:zag w a xs) (hn:xs.length=n) (hm:n≤maxLen) (hT:Tab w):
    Calls Tryz.prog 308 #[rv v a n c t] w fun e w' =>e=.returned (.tuple #[.string (bs (zd4 v xs t)),.int .i64 (rootE v xs t)])∧Below w.heap.size w w' :=by
  have hw0:Below w.heap.size w (w.alloc (.cells #[.int .i64 v,.slice a n c,.int .i64 t] 30)):=bA1;have b0:=hide (heap_alloc_last w (.cells #[.int .i64 v,.slice a n c,.int .i64 t] 30));have i0:=h.below hw0;have t0:=hT.below hw0;have HC:=hide (fun W (hW:zag W a xs)=>zeu v a n c t xs W hW hn hm);unfold rv at HC⊢
  by_cases h0:rootE v xs t=0
  {
  have HX:=hide (show zd4 v xs t=rootT v xs t by unfold zd4;rw [if_pos h0]);obtain ⟨k1,k2⟩:=root_I64 h0;have hl:n≤6:=by have:=(zft h0).2.1;omega
  have HW2:=hide (fun W (hW:zag W a xs) (hTW:Tab W)=>zdp a n c xs W hW hn k1 (by omega) hTW);have HW1:=hide (fun W B (hW:zag W (some ⟨B,0,none⟩) [v,t]) (hTW:Tab W)=>zdp (some ⟨B,0,none⟩) 2 2 [v,t] W hW rfl k2 (by omega) hTW);have l1:=hide (zeh k2 (by simp));have l2:=hide (zeh k1 (by omega));rw [h0] at HC;rw [h0];have hadd1: ¬9223372036854775807<5+(bs (wr [v,t])).size:=by rw [zdk];have:=l1.out;omega
  have hadd2: ¬9223372036854775807<5+(bs (wr [v,t])).size+4:=by rw [zdk];have:=l1.out;omega
  have hadd3: ¬9223372036854775807<5+(bs (wr [v,t])).size+4+(bs (wr xs)).size:=by rw [zdk,zdk];have:=l1.out;have:=l2.out;omega
  clear hn k1 k2;go_enter Tryz.func308,Tryz.ntmps308;go_wp2_with fail;generalize w.alloc (.cells #[.int .i64 v,.slice a n c,.int .i64 t] 30)=W at *;refine(zae HC _ i0).mono ?_;rintro e w1 ⟨rfl,hb1⟩;replace b0:=hide (zab b0.out hb1);replace i0:=i0.below hb1;replace t0:=t0.below hb1;replace hw0:=bT hw0 hb1;clear hb1;replace HW2:=hide (fun W (hW:Below w1.heap.size w1 W)=>(HW2.out W (i0.below hW) (t0.below hW)).mono fun _ _ h=>(⟨h.1,h.2,hW.trans (h.2.mono hW.size)⟩:_∧Below W.heap.size W _∧Below w1.heap.size w1 _));replace HW1:=hide (fun W B (hW:Below w1.heap.size w1 W) (hi:zag W (some ⟨B,0,none⟩) [v,t])=>(HW1.out W B hi (t0.below hW)).mono fun _ _ h=>(⟨h.1,h.2,hW.trans (h.2.mono hW.size)⟩:_∧Below W.heap.size W _∧Below w1.heap.size w1 _));go_upto_region 4 with fail
  have hb5:True:=trivial
  go_region_held3 (fun w' =>w'.cell? ⟨w.heap.size,0,none⟩=some (.int .i64 v)∧w'.cell? ⟨w.heap.size,1,none⟩=some (.slice a n c)∧w'.cell? ⟨w.heap.size,2,none⟩=some (.int .i64 t)∧Below w1.heap.size w1 w')
    (first| (refine keep3 ?_ b0.out;(repeat(first|assumption|exact Below.refl _ _|refine Below.drew ?_|refine zaf ?_ _));done))
    ((first
      | (go_at_call_of 168 c;refine(zae HW2 _ ?_).mono ?_;(focus((repeat(first|assumption|exact Below.refl _ _|refine Below.drew ?_|refine zaf ?_ _));done));rintro e w5 ⟨rfl,hb5,hk5⟩)
      | (go_at_call 168;refine(zae HW1 _ _ ?_ ?_).mono ?_;(focus((repeat(first|assumption|exact Below.refl _ _|refine Below.drew ?_|refine zaf ?_ _));done));(focus((repeat(first|exact zd2 _ _ [v,t] _ _ rfl rfl|refine zf6 ?_|refine zag.below ?_ hb5));done));rintro e w6 ⟨rfl,hb6,hk6⟩)))
  go_wp2_with fail;go_ret2;refine⟨?_,hw0.trans (Below.mono (by first|assumption|exact And.right (And.right (And.right (by assumption)))) hw0.size)⟩;rw [HX.out];exact zn4 (zn9 rootW (wr [v,t]) ofW (wr xs) rfl rfl)
  }
  {
  have hb: (rootE v xs t !=0)=true:=by simpa using h0
  have HX:=hide (show zd4 v xs t= [] by unfold zd4;rw [if_neg h0]);clear hn h0;generalize rootE v xs t=q at *;go_enter Tryz.func308,Tryz.ntmps308;go_wp2_with fail;generalize w.alloc (.cells #[.int .i64 v,.slice a n c,.int .i64 t] 30)=W at *;refine(zae HC _ i0).mono ?_;rintro e w1 ⟨rfl,hb1⟩;replace hw0:=bT hw0 hb1;go_wp2_with fail;go_ret2;rw [HX.out];exact⟨rfl,hw0⟩
  }
end
section
open Go.RowKit
def nameE (ss:List ByteArray) (s:ByteArray):Int:=if bookE ss=0 then(nameN ss s:Int) else 0
def inE (ss:List ByteArray) (xs:List Int):Int:=if imgE xs=0 then bookE ss else imgE xs
def inN (ss:List ByteArray) (xs:List Int):Int:=if imgE xs=0 then nameE ss (bs (imgT xs)) else 0
theorem zdi {a b c d:Int} (h:a=c) (h2:b=d):Ending.returned (.tuple #[.int .i64 a,.int .i64 b])=.returned (.tuple #[.int .i64 c,.int .i64 d]):=by rw [h,h2]
theorem zjc (a:Option Addr) (n c:Nat) (ss:List ByteArray) (s:ByteArray) (w:World) (h:za1 w a ss) (hn:ss.length=n) (hc:n≤c) (hm:n≤maxLen) (hz: ∀s∈ss,s.size≤maxLen):
    Calls Tryz.prog 205 #[bookv a n c,.string s] w fun e w' =>e=.returned (.tuple #[.int .i64 (nameE ss s),.int .i64 (bookE ss)])∧Below w.heap.size w w' :=by
  have hw0:Below w.heap.size w (w.alloc (.cells #[.slice a n c] 24)):=bA1;have b0:=hide (heap_alloc_last w (.cells #[.slice a n c] 24));have i0:=h.below hw0;have HC:=hide (fun W (hW:za1 W a ss)=>zdw a n c ss W hW hn hc hz);have HI:=hide (fun W (hW:za1 W a ss)=>zgv a n c ss s W hW hn hm);have hle:=zoc ss s;rw [hn] at hle;unfold maxLen at hm;have hwrap:IntKind.i64.wrap ((nameN ss s:Int)- 1+1)= (nameN ss s:Int):=by rw [IntKind.wrap_i64];omega
  obtain ⟨q,hq⟩: ∃q:Int,q= (nameN ss s:Int)- 1:=⟨_,rfl⟩;rw [←hq] at hwrap HI;unfold bookv at HC⊢;clear hn
  by_cases h0:bookE ss=0
  {
  have HX:=hide (show nameE ss s= (nameN ss s:Int) by unfold nameE;rw [if_pos h0]);have H0:=hide h0;rw [h0] at HC;rw [h0];clear h0 hq;generalize (nameN ss s:Int)=r at *;go_enter Tryz.func205,Tryz.ntmps205;go_wp2_with fail;generalize w.alloc (.cells #[.slice a n c] 24)=W at *;refine(zae HC _ i0).mono ?_;rintro e w1 ⟨rfl,hb1⟩;replace i0:=i0.below hb1;replace hw0:=bT hw0 hb1;have x0:=zaa (zab b0.out hb1) 0 _ rfl;clear hb1;go_wp2_with fail;refine(zae HI _ i0).mono ?_;rintro e w2 ⟨rfl,rfl⟩;go_wp2_with fail;go_ret2;exact⟨zdi HX.out.symm rfl,hw0⟩
  }
  {
  have hb: (bookE ss !=0)=true:=by simpa using h0
  have HX:=hide (show nameE ss s=0 by unfold nameE;rw [if_neg h0]);clear h0 hq;generalize bookE ss=r at *;go_enter Tryz.func205,Tryz.ntmps205;go_wp2_with fail;generalize w.alloc (.cells #[.slice a n c] 24)=W at *;refine(zae HC _ i0).mono ?_;rintro e w1 ⟨rfl,hb1⟩;replace hw0:=bT hw0 hb1;go_wp2_with fail;go_ret2;exact⟨zdi HX.out.symm rfl,hw0⟩
  }
theorem zew (a:Option Addr) (n c:Nat) (ss:List ByteArray) (a2:Option Addr) (n2 c2:Nat) (xs:List Int) (w:World) (h:za1 w a ss) (hn:ss.length=n) (hc:n≤c) (hm:n≤maxLen) (hz: ∀s∈ss,s.size≤maxLen)
    (h2:zag w a2 xs) (hn2:xs.length=n2) (hm2:n2≤maxLen) (hT:Tab w):
    Calls Tryz.prog 139 #[bookv a n c,.slice a2 n2 c2] w fun e w' =>e=.returned (.tuple #[.int .i64 (inN ss xs),.int .i64 (inE ss xs)])∧Below w.heap.size w w' :=by
  have hw0:Below w.heap.size w (w.alloc (.cells #[.slice a n c] 24)):=bA1;have b0:=hide (heap_alloc_last w (.cells #[.slice a n c] 24));have i0:=h.below hw0;have j0:=h2.below hw0;have t0:=hT.below hw0;have HT:=hide (fun W (hW:zag W a2 xs) (hTW:Tab W)=>zg9 a2 n2 c2 xs W hW hn2 hm2 hTW);have HNm:=hide (fun W s (hW:za1 W a ss)=>zjc a n c ss s W hW hn hc hm hz);unfold bookv at HNm⊢;clear hn hn2
  by_cases h0:imgE xs=0
  {
  have HX:=hide (show inN ss xs=nameE ss (bs (imgT xs)) by unfold inN;rw [if_pos h0]);have HY:=hide (show inE ss xs=bookE ss by unfold inE;rw [if_pos h0]);have HZ:=hide (show imgTx xs=imgT xs by unfold imgTx;rw [if_pos h0]);rw [HZ.out,h0] at HT;clear h0;generalize bs (imgT xs)=s at *;replace HNm:=hide (fun W=>zae HNm W s);generalize nameE ss s=r1 at *;generalize bookE ss=r2 at *;go_enter Tryz.func139,Tryz.ntmps139;go_wp2_with fail;generalize w.alloc (.cells #[.slice a n c] 24)=W at *;refine(zae HT _ j0 t0).mono ?_;rintro e w1 ⟨rfl,hb1⟩;replace i0:=i0.below hb1;replace hw0:=bT hw0 hb1;have x0:=zaa (zab b0.out hb1) 0 _ rfl;clear hb1;go_wp2_with fail;refine(zae HNm _ i0).mono ?_;rintro e w2 ⟨rfl,hb2⟩;go_wp2_with fail;go_ret2;exact⟨zdi HX.out.symm HY.out.symm,(bT hw0 hb2)⟩
  }
  {
  have hb: (imgE xs !=0)=true:=by simpa using h0
  have HX:=hide (show inN ss xs=0 by unfold inN;rw [if_neg h0]);have HY:=hide (show inE ss xs=imgE xs by unfold inE;rw [if_neg h0]);clear h0;generalize imgE xs=r at *;go_enter Tryz.func139,Tryz.ntmps139;go_wp2_with fail;generalize w.alloc (.cells #[.slice a n c] 24)=W at *;refine(zae HT _ j0 t0).mono ?_;rintro e w1 ⟨rfl,hb1⟩;replace hw0:=bT hw0 hb1;go_wp2_with fail;go_ret2;exact⟨zdi HX.out.symm HY.out.symm,hw0⟩
  }
end
section
open Go.RowKit
structure Un where
  ws:List Int
  fu:Int
  up:Bool
  n:Int
  hv:Int
structure Ms where
  k:Int
  u:Int
  n:Int
  at' :Int
  im:Int
  ws:List Int
  y:Bool
structure Us where
  slot:Int
  by' :Int
  rdy:Int
def isR (r:List Int) (k:Int) (l:Nat):Bool:=decide (r.length=l)&&decide (r.getD 0 0=k)
def zcf (s:Us) (r:List Int):Us:=
  if(isR r 1 3&&decide (r.getD 1 0≤1))=true then⟨r.getD 1 0,r.getD 2 0,0⟩
  else if isR r 2 2=true then⟨s.slot,s.by',r.getD 1 0⟩
  else if isR r 3 2=true then⟨s.slot,s.by',0⟩ else s
def us0:Us:=⟨0,0,0⟩
def stR (rs:List (List Int)):Us:=rs.foldl zcf us0
def stOf (ws:List Int):Us:=stR (logR ws)
def unE (u:Un):Int:=if lchk u.ws u.fu≠0 then lchk u.ws u.fu else if u.ws.length≠192 then 4 else if(inB u.n 0 8&&inB u.hv 0 40)=true then 0 else 3
def msB (m:Ms):Bool:=inB m.k 1 7&&(inB m.u 0 3&&(inB m.n 1 8&&(inB m.at' 0 40&&(inB m.im 0 60&&(decide (m.ws.length≤8)&&okL m.ws)))))
def msE (m:Ms):Int:=if msB m=true then 0 else 3
def heE (ss:List ByteArray) (u:Un) (m:Ms):Int:=if bookE ss≠0 then bookE ss else if unE u≠0 then unE u else msE m
def doU (u:Un) (r:List Int×Int×Int):Un×Bool:=
  if r.2.2=7 then(⟨r.1,r.2.1,false,0,0⟩,false) else if r.2.2=0 then(⟨r.1,r.2.1,u.up,u.n,u.hv⟩,true) else(u,false)
def keepU (s:Us):List (List Int):=if s.rdy=0 then [[1,s.slot,s.by']] else [[1,s.slot,s.by'], [2,s.rdy]]
abbrev Stu:=Sum (Sum Unit Int) (Sum (Int×Int×List Int) (Sum (Int×Int×Int) (Us×List Int)))
abbrev Stu.fmt:Stu:=Sum.inl (Sum.inl ())
abbrev Stu.clr (s:Int):Stu:=Sum.inl (Sum.inr s)
abbrev Stu.fil (s a:Int) (words:List Int):Stu:=Sum.inr (Sum.inl (s,a,words))
abbrev Stu.sea (s long name:Int):Stu:=Sum.inr (Sum.inr (Sum.inl (s,long,name)))
abbrev Stu.not (s:Us) (r:List Int):Stu:=Sum.inr (Sum.inr (Sum.inr (s,r)))
def doT:Stu→List Int→Int→List Int×Int×Int
  | .inl (.inl _),ws,f=>fmtS ws f
  | .inl (.inr s),ws,f=>clrS ws f s
  | .inr (.inl (s,a,words)),ws,f=>fillS ws f s a words
  | .inr (.inr (.inl (s,l,n))),ws,f=>sealS ws f s l n
  | .inr (.inr (.inr (s,r))),ws,f=>appS ws f r (keepU s)
def doV (u:Un) (st:Stu):Un×Bool:=doU u (doT st u.ws u.fu)
def turnU:List Stu→Un→Un×Bool
  | [],u=>(u,true)
  |st::r,u=>if(doV u st).2=true then turnU r (doV u st).1 else((doV u st).1,false)
def oth (s:Us):Int:=1 - s.slot
def mind (u:Un) (n hv:Int):Un:=⟨u.ws,u.fu,u.up,n,hv⟩
def voteM (m:Ms) (y:Bool):Ms:=⟨3,m.u,m.n,0,0, [],y⟩
def doneM (m:Ms):Ms:=⟨6,m.u,m.n,0,0, [],false⟩
def zb8 (u:Un) (s:Us) (m:Ms):Un×Bool:=
  if m.at' =0∧(u.n≠m.n∨u.hv=0) then
    (if(doV u (.clr (oth s))).2=true then(mind (doV u (.clr (oth s))).1 m.n 0,true) else((doV u (.clr (oth s))).1,false))
  else(u,true)
def zcj (u:Un) (s:Us) (m:Ms):Un:=
  if u.n=m.n∧u.hv=m.at' ∧(m.ws.length:Int)≤40 - m.at' then
    (if(doV u (.fil (oth s) m.at' m.ws)).2=true then mind (doV u (.fil (oth s) m.at' m.ws)).1 (doV u (.fil (oth s) m.at' m.ws)).1.n ((doV u (.fil (oth s) m.at' m.ws)).1.hv+m.ws.length)
    else(doV u (.fil (oth s) m.at' m.ws)).1)
  else u
def zda (u:Un) (s:Us) (m:Ms):Un:=
  if s.rdy≠0∨m.n≤s.by' then u else if(zb8 u s m).2=true then zcj (zb8 u s m).1 s m else(zb8 u s m).1
def zfm (u:Un) (s:Us) (m:Ms):List Int:=(bodyS u.ws u.fu (oth s) m.at').1
def zh6 (ss:List ByteArray) (u:Un) (s:Us) (m:Ms):Bool:=
  decide ((bodyS u.ws u.fu (oth s) m.at').2=0)&&(decide (inE ss (zfm u s m)=0)&&(decide (inN ss (zfm u s m)≠0)&&decide (inN ss (zfm u s m)=m.im)))
def zj4 (u:Un) (s:Us) (m:Ms) (words:List Int):Bool:=
  decide ((imgS u.ws u.fu (oth s)).2.2=0)&&(decide ((imgS u.ws u.fu (oth s)).2.1=m.im)&&eqL (imgS u.ws u.fu (oth s)).1 words)
def prepC (u:Un) (s:Us) (m:Ms):Un×List Ms:=
  if(doV u (.not s [2,m.n])).2=true then((doV u (.not s [2,m.n])).1, [voteM m true]) else((doV u (.not s [2,m.n])).1, [])
def prepB (u:Un) (s:Us) (m:Ms) (words:List Int):Un×List Ms:=
  if(doV u (.sea (oth s) m.at' m.im)).2=true then
    (if zj4 (mind (doV u (.sea (oth s) m.at' m.im)).1 0 0) s m words=true then prepC (mind (doV u (.sea (oth s) m.at' m.im)).1 0 0) s m
    else(mind (doV u (.sea (oth s) m.at' m.im)).1 0 0, [voteM m false]))
  else((doV u (.sea (oth s) m.at' m.im)).1, [])
def prepS (ss:List ByteArray) (u:Un) (s:Us) (m:Ms):Un×List Ms:=
  if m.n≤s.by' then(u, [doneM m]) else if s.rdy≠0 then(u, [voteM m (decide (s.rdy=m.n))])
  else if u.n=m.n∧u.hv=m.at' ∧zh6 ss u s m=true then prepB u s m (zfm u s m) else(u, [voteM m false])
def comS (u:Un) (s:Us) (m:Ms):Un×List Ms:=
  if s.by' =m.n then(u, [doneM m]) else if s.rdy≠m.n then(u, [])
  else if(doV u (.not s [1,oth s,m.n])).2=true then((doV u (.not s [1,oth s,m.n])).1, [doneM m]) else((doV u (.not s [1,oth s,m.n])).1, [])
def aboB (u:Un) (m:Ms):Un×List Ms:=(if u.n=m.n then mind u 0 0 else u, [doneM m])
def aboS (u:Un) (s:Us) (m:Ms):Un×List Ms:=
  if m.n≤s.by' then(u, []) else if s.rdy=m.n then
    (if(doV u (.not s [3,m.n])).2=true then aboB (doV u (.not s [3,m.n])).1 m else((doV u (.not s [3,m.n])).1, []))
  else aboB u m
def hearK (ss:List ByteArray) (u:Un) (m:Ms):Un×List Ms:=
  if m.k=1 then(zda u (stOf u.ws) m, []) else if m.k=2 then prepS ss u (stOf u.ws) m
  else if m.k=4 then comS u (stOf u.ws) m else if m.k=5 then aboS u (stOf u.ws) m else(u, [])
def hearS (ss:List ByteArray) (u:Un) (m:Ms):Un×List Ms:=if u.up=true then hearK ss u m else(u, [])
end
section
open Go.RowKit
abbrev S2:=Int×Int
structure Rt where
  v:Int
  ks:List Int
  t:Int
structure Tr where
  r:Rt
  ver:Int
structure Of where
  roots:List Rt
  rsigs:List (List Int)
  v:Int
  u:Int
  ts:List T3
  sigs:List Int
  imgs:List (List Int)
def Rt.e (r:Rt):Int:=rootE r.v r.ks r.t
def Rt.tx (r:Rt):List UInt8:=rootT r.v r.ks r.t
def sOK (s:S2):Bool:=inR s.1 1 50&&inR s.2 1 60
def sigE (l:List S2):Int:=if 360<l.length then 2 else if l.all sOK then 0 else 3
def trE (t:Tr):Int:=if inR t.ver 0 1000 then t.r.e else 3
def has {α:Type} [DecidableEq α] (xs:List α) (x:α):Bool:=decide (x∈xs)
def hit (l:List S2) (sigs:List Int) (name k:Int):Bool:=has sigs k&&has l (k,name)
def cntN (l:List S2) (ks sigs:List Int) (name:Int):Nat:=ks.countP (hit l sigs name)
def cntE (l:List S2) (r:Rt) (sigs:List Int):Int:=
  if sigE l=0 then(if r.e=0 then(if 50<sigs.length then 2 else 0) else r.e) else sigE l
def cntV (l:List S2) (r:Rt) (sigs:List Int) (name:Int):Int:=if cntE l r sigs=0 then(cntN l r.ks sigs name:Int) else 0
def csE (l:List S2) (r:Rt) (sigs:List Int) (name:Int):Int:=
  if cntE l r sigs=0 then(if(cntN l r.ks sigs name:Int)<r.t then 9 else 0) else cntE l r sigs
def turnE (ss:List ByteArray) (l:List S2) (t:Tr) (x:Rt) (sigs:List Int):Int:=
  if trE t=0 then
    (if x.e=0 then
      (if bookE ss=0 then
        (if x.v=t.r.v+1 then
          (if csE l t.r sigs (nameN ss (bs x.tx))=0 then csE l x sigs (nameN ss (bs x.tx)) else csE l t.r sigs (nameN ss (bs x.tx)))
        else 10)
      else bookE ss)
    else x.e)
  else trE t
def zdf (ss:List ByteArray) (l:List S2) (t:Tr):List Rt→List (List Int)→Int
  |r::rs,s::sgs=>if turnE ss l t r s=0 then zdf ss l ⟨r,t.ver⟩ rs sgs else turnE ss l t r s
  |_,_=>0
def lastR (r:Rt):List Rt→Rt
  | []=>r
  |x::rs=>lastR x rs
def allE (ss:List ByteArray) (l:List S2) (t:Tr) (rs:List Rt) (sgs:List (List Int)):Int:=
  if 6<rs.length then 2 else if sgs.length=rs.length then zdf ss l t rs sgs else 2
def crE (ss:List ByteArray) (l:List S2) (by_:Rt) (v u:Int) (ts:List T3) (sigs:List Int):Int:=
  if relE v u ts=0 then(if bookE ss=0 then csE l by_ sigs (nameN ss (bs (relT v u ts))) else bookE ss) else relE v u ts
def zcx (ss:List ByteArray) (t:T3) (w:List Int):Bool:=decide (inE ss w=0)&&(decide (inN ss w=t.2.1)&&decide ((w.length:Int)=t.2.2))
def zb2 (ss:List ByteArray):List T3→List (List Int)→Bool
  |t::ts,w::ws=>zcx ss t w&&zb2 ss ts ws
  |_,_=>true
def restE (ss:List ByteArray) (ver:Int) (o:Of) (now units:Int):Int:=
  if o.v≤ver then 10 else if o.u<now then 11
  else if(o.ts.length:Int)≠units then 4 else if(o.imgs.length:Int)≠units then 4
  else if zb2 ss o.ts o.imgs then 0 else 5
def takeE (ss:List ByteArray) (l:List S2) (t:Tr) (o:Of) (now units:Int):Int:=
  if trE t=0 then
    (if allE ss l t o.roots o.rsigs=0 then
      (if crE ss l (lastR t.r o.roots) o.v o.u o.ts o.sigs=0 then restE ss t.ver o now units
      else crE ss l (lastR t.r o.roots) o.v o.u o.ts o.sigs)
    else allE ss l t o.roots o.rsigs)
  else trE t
theorem sigE_many {l:List S2} (h:360<l.length):sigE l=2:=by unfold sigE;rw [if_pos h]
theorem sigE_bad {l:List S2} {k:Nat} (h:l.length≤360) (hk:k<l.length) (h2:sOK l[k]=false):sigE l=3:=by
  unfold sigE;rw [if_neg (by omega),if_neg];intro ha;have:=List.all_eq_true.1 ha l[k] (List.getElem_mem hk);rw [h2] at this;cases this
theorem sigE_ok {l:List S2} (h:l.length≤360) (h2:l.all sOK=true):sigE l=0:=by
  unfold sigE;rw [if_neg (by omega),if_pos h2]
theorem sOK_step {l:List S2} {k:Nat} (hk:k<l.length) (h: (l.take k).all sOK=true) (hv:sOK l[k]=true): (l.take (k+1)).all sOK=true:=by
  rw [List.take_succ_eq_append_getElem hk,List.all_append,h]
  simp [hv]
theorem cntN_step {l:List S2} {ks sigs:List Int} {name:Int} {k:Nat} (hk:k<ks.length):
    cntN l (ks.take (k+1)) sigs name=cntN l (ks.take k) sigs name+if hit l sigs name ks[k] then 1 else 0:=by
  unfold cntN;rw [List.take_succ_eq_append_getElem hk,List.countP_append]
  simp [List.countP_cons]
end
section
open Go.RowKit
structure Gt where
  ws:List Int
  fu:Int
  up:Bool
  t:Tr
  vo:List Bool
  di:List Bool
structure Gs where
  n:Int
  v:Int
  co:Bool
  ab:Bool
  en:Bool
def gs0:Gs:=⟨0,0,false,false,false⟩
def decG (s:Gs):Bool:=s.co||s.ab
def trnG (s:Gs) (k:Int):Gs:=
  if k=2 then⟨s.n,s.v,!s.ab,s.ab,s.en⟩ else if k=3 then⟨s.n,s.v,s.co,!s.co,s.en⟩ else if k=4 then⟨s.n,s.v,s.co,s.ab,decG s⟩ else s
def isBeg (r:List Int):Bool:=decide (r.length=3)&&(decide (r.getD 0 0=1)&&inB (r.getD 1 0) 1 8)
def isOf (s:Gs) (r:List Int):Bool:=decide (r.length=2)&&(decide (s.n≠0)&&decide (r.getD 1 0=s.n))
def gNext (s:Gs) (r:List Int):Gs:=
  if isBeg r=true then⟨r.getD 1 0,r.getD 2 0,false,false,false⟩ else if isOf s r=true then trnG s (r.getD 0 0) else s
def gR (rs:List (List Int)):Gs:=rs.foldl gNext gs0
def gOf (ws:List Int):Gs:=gR (logR ws)
def gtB (g:Gt):Bool:=inB g.vo.length 1 4&&decide (g.di.length=g.vo.length)
def gtE (g:Gt):Int:=if lchk g.ws g.fu≠0 then lchk g.ws g.fu else if gtB g=true then trE g.t else 4
def kepG (s:Gs):List (List Int):=
  if s.n=0 then [] else [1,s.n,s.v]::((if s.co=true then [[2,s.n]] else [])++((if s.ab=true then [[3,s.n]] else [])++(if s.en=true then [[4,s.n]] else [])))
def zbj (l:List Bool):List Bool:=l.map fun _=>false
def forgG (g:Gt):Gt:=⟨g.ws,g.fu,g.up,g.t,zbj g.vo,zbj g.di⟩
def dnG (g:Gt) (r:List Int×Int×Int):Gt×Bool:=
  if r.2.2=7 then(⟨r.1,r.2.1,false,g.t,zbj g.vo,zbj g.di⟩,false) else if r.2.2=0 then(⟨r.1,r.2.1,g.up,g.t,g.vo,g.di⟩,true) else(g,false)
def noteG (g:Gt) (s:Gs) (r:List Int):Gt×Bool:=dnG g (appS g.ws g.fu r (kepG s))
def gt0:Gt:=⟨[],0,false,⟨⟨0, [],0⟩,0⟩, [], []⟩
def zc3 (g:Gt):Gs×Int:=if gtE g≠0 then(gs0,gtE g) else(gOf g.ws,0)
def zdb (g:Gt):Gt×Int:=if gtE g≠0 then(gt0,gtE g) else(⟨g.ws,-1,true,g.t,zbj g.vo,zbj g.di⟩,0)
def upE (g:Gt):Int:=if gtE g≠0 then gtE g else if g.up=true then 0 else 7
def gvUp (g:Gt):Gt×Int:=
  if upE g≠0 then(gt0,upE g) else if(decide ((gOf g.ws).n=0)||decG (gOf g.ws))=true then(gt0,12) else((noteG g (gOf g.ws) [3,(gOf g.ws).n]).1,0)
def ghE (g:Gt) (m:Ms):Int:=if gtE g≠0 then gtE g else if(inB m.u 0 ((g.vo.length:Int)- 1)&&inB m.n 1 8)=true then 0 else 3
def pend (s:Gs) (m:Ms):Bool:=decide (s.n=m.n)&&!s.en
def verd (s:Gs) (u n:Int):Ms:=⟨if(decide (s.n=n)&&s.co)=true then 4 else 5,u,n,0,0, [],false⟩
def setB (l:List Bool) (u:Int):List Bool:=l.set u.toNat true
def allB (l:List Bool):Bool:=!(l.any fun b=>!b)
def voteG (g:Gt) (s:Gs) (m:Ms):Gt:=
  if allB (setB g.vo m.u)=true then(noteG ⟨g.ws,g.fu,g.up,g.t,setB g.vo m.u,g.di⟩ s [2,s.n]).1 else⟨g.ws,g.fu,g.up,g.t,setB g.vo m.u,g.di⟩
def doneG (g:Gt) (s:Gs) (m:Ms):Gt:=
  if allB (setB g.di m.u)=true then(noteG ⟨g.ws,g.fu,g.up,g.t,g.vo,setB g.di m.u⟩ s [4,s.n]).1 else⟨g.ws,g.fu,g.up,g.t,g.vo,setB g.di m.u⟩
def ghK (g:Gt) (s:Gs) (m:Ms):Gt×List Ms:=
  if m.k=3 then(if(pend s m&&(!decG s&&m.y))=true then voteG g s m else g, [])
  else if m.k=6 then(if(pend s m&&decG s)=true then doneG g s m else g, [])
  else if m.k=7 then(g,if(pend s m&&!decG s)=true then [] else [verd s m.u m.n]) else(g, [])
def gHear (g:Gt) (m:Ms):Gt×List Ms×Int:=
  if ghE g m≠0 then(gt0, [],ghE g m) else if g.up=true then((ghK g (gOf g.ws) m).1,(ghK g (gOf g.ws) m).2,0) else(g, [],0)
def dueE (g:Gt) (cn:Int) (ts:List T3) (ims:List (List Int)) (u:Int):Int:=
  if upE g≠0 then upE g else if(decide ((gOf g.ws).n=0)||(gOf g.ws).en)=true then 12
  else if(inB u 0 ((g.vo.length:Int)- 1)&&(decide (cn= (gOf g.ws).n)&&(decide (u<ims.length)&&decide (u<ts.length))))=true then 0 else 5
def zgh (u n:Int) (image:List Int):Nat→Nat→List Ms
  |0,_=> []
  |f+1,p=>if p<image.length then⟨1,u,n,p,0,(image.drop p).take 8,false⟩::zgh u n image f (p+8) else []
def delG (n:Int) (u:Int) (im:Int) (image:List Int):List Ms:=zgh u n image 6 0++ [⟨2,u,n,image.length,im, [],false⟩]
def gDue (g:Gt) (cn:Int) (ts:List T3) (ims:List (List Int)) (u:Int):List Ms×Int:=
  if dueE g cn ts ims u≠0 then([],dueE g cn ts ims u)
  else if decG (gOf g.ws)=true then(if g.di.getD u.toNat false=true then [] else [verd (gOf g.ws) u (gOf g.ws).n],0)
  else if g.vo.getD u.toNat false=true then([],0)
  else if 40< (ims.getD u.toNat []).length then([],2) else(delG cn u (ts.getD u.toNat (0,0,0)).2.1 (ims.getD u.toNat []),0)
end
section
open Go.RowKit
def zcr (w:World) (a:Option Addr) (l:List S2):Prop:=
  l= []∨∃b off,a=some ⟨b,off,none⟩∧∀i s,l[i]?=some s→
    w.cell? ⟨b,off+i * 2,none⟩=some (.int .i64 s.1)∧w.cell? ⟨b,off+i * 2+1,none⟩=some (.int .i64 s.2)
theorem zcr.below {l:List S2} (h:zcr w a l) (hb:Below w.heap.size w w'):zcr w' a l:=by
  rcases h with h| ⟨b,off,rfl,hc⟩
  { exact .inl h }
  {
  refine .inr ⟨b,off,rfl,fun i s hi=> ?_⟩;obtain ⟨h1,h2⟩:=hc i s hi;exact⟨by rw [hb.cell (zah h1)];exact h1,by rw [hb.cell (zah h2)];exact h2⟩
  }
def ze6 (w:World) (a:Option Addr) (ls:List (List Int)):Prop:=
  ls= []∨∃b off,a=some ⟨b,off,none⟩∧∀i r,ls[i]?=some r→
    ∃ai ci,w.cell? ⟨b,off+i,none⟩=some (Value.slice ai r.length ci)∧zag w ai r∧r.length≤ci∧ci≤maxLen
theorem ze6.below (h:ze6 w a ls) (hb:Below w.heap.size w w'):ze6 w' a ls:=by
  rcases h with h| ⟨b,off,rfl,hc⟩
  { exact .inl h }
  {
  refine .inr ⟨b,off,rfl,fun i r hi=> ?_⟩;obtain ⟨ai,ci,h1,h2,h3⟩:=hc i r hi;exact⟨ai,ci,by rw [hb.cell (zah h1)];exact h1,h2.below hb,h3⟩
  }
def zih (w:World) (a:Option Addr) (rs:List Rt):Prop:=
  rs= []∨∃b off,a=some ⟨b,off,none⟩∧∀i r,rs[i]?=some r→
    ∃ai ci,w.cell? ⟨b,off+i * 3,none⟩=some (.int .i64 r.v)∧w.cell? ⟨b,off+i * 3+1,none⟩=some (Value.slice ai r.ks.length ci)∧w.cell? ⟨b,off+i * 3+2,none⟩=some (.int .i64 r.t)∧zag w ai r.ks∧r.ks.length≤ci∧ci≤maxLen
theorem zih.below {rs:List Rt} (h:zih w a rs) (hb:Below w.heap.size w w'):zih w' a rs:=by
  rcases h with h| ⟨b,off,rfl,hc⟩
  { exact .inl h }
  {
  refine .inr ⟨b,off,rfl,fun i r hi=> ?_⟩;obtain ⟨ai,ci,h1,h2,h3,h4,h5⟩:=hc i r hi;exact⟨ai,ci,by rw [hb.cell (zah h1)];exact h1,by rw [hb.cell (zah h2)];exact h2,by rw [hb.cell (zah h3)];exact h3,h4.below hb,h5⟩
  }
def trv (v:Int) (a:Option Addr) (n c:Nat) (t ver:Int):Value:=.agg #[.int .i64 v,.slice a n c,.int .i64 t,.int .i64 ver]
def sv (s:S2):Value:=.agg #[.int .i64 s.1,.int .i64 s.2]
structure BI (w:World) (a:Option Addr) (n:Nat) (xs:List Int):Prop where
  at_:zag w a xs
  len:xs.length=n
  max:n≤maxLen
structure BG (w:World) (a:Option Addr) (n:Nat) (l:List S2):Prop where
  at_:zcr w a l
  len:l.length=n
  max:n≤maxLen
structure BB (w:World) (a:Option Addr) (n c:Nat) (ss:List ByteArray):Prop where
  at_:za1 w a ss
  len:ss.length=n
  cap:n≤c
  max:n≤maxLen
  short: ∀s∈ss,s.size≤maxLen
structure BT (w:World) (a:Option Addr) (n:Nat) (ts:List T3):Prop where
  at_:zbm w a ts
  len:ts.length=n
  max:n≤maxLen
structure BR (w:World) (a:Option Addr) (n:Nat) (rs:List Rt):Prop where
  at_:zih w a rs
  len:rs.length=n
  max:n≤maxLen
structure BL (w:World) (a:Option Addr) (n:Nat) (ls:List (List Int)):Prop where
  at_:ze6 w a ls
  len:ls.length=n
  max:n≤maxLen
theorem BI.below (h:BI w a n xs) (hb:Below w.heap.size w w'):BI w' a n xs:=⟨h.at_.below hb,h.len,h.max⟩
theorem BG.below {l:List S2} (h:BG w a n l) (hb:Below w.heap.size w w'):BG w' a n l:=⟨h.at_.below hb,h.len,h.max⟩
theorem BB.below {c:Nat} {ss:List ByteArray} (h:BB w a n c ss) (hb:Below w.heap.size w w'):BB w' a n c ss:=⟨h.at_.below hb,h.len,h.cap,h.max,h.short⟩
theorem BT.below {ts:List T3} (h:BT w a n ts) (hb:Below w.heap.size w w'):BT w' a n ts:=⟨h.at_.below hb,h.len,h.max⟩
theorem BR.below {rs:List Rt} (h:BR w a n rs) (hb:Below w.heap.size w w'):BR w' a n rs:=⟨h.at_.below hb,h.len,h.max⟩
theorem BL.below (h:BL w a n ls) (hb:Below w.heap.size w w'):BL w' a n ls:=⟨h.at_.below hb,h.len,h.max⟩
end
section
open Go.RowKit
theorem zaj (h:Below w.heap.size w w') (B:Nat):w.grownBy w' (some B):=⟨h.os,h.tape,h.output,h.size,fun k hk _=>h.block k hk⟩
theorem zac (h:w.grownBy w' (some B)) (i:Nat) (v:Value):w.grownBy (w'.setCell ⟨B,i,none⟩ v) (some B):=
  h.trans ⟨rfl,rfl,rfl,by simp [World.setCell],fun k _ hne=>Below.heap_setCell _ _ _ _ (fun e=>hne (by rw [e]))⟩
theorem zam {a:World} (h:Below n a w) (hg:w.grownBy w' (some B)) (hB:n≤B) (hs:n≤w.heap.size):Below n a w' :=
  h.grown hg hs (fun k e=>by cases e;exact hB)
def Off (B:Nat) (a:Option Addr):Prop:=∀ad,a=some ad→ad.block≠B
theorem zn3 (B:Nat):Off B none:=fun _ h=>by cases h
theorem za6 (h:zal n a) (hB:B<n):Off B a:=fun ad e=>by have:=h ad e;omega
theorem zax (h:zag w a xs) (hg:w.grownBy w' (some B)) (ho:Off B a):zag w' a xs:=by
  rcases h with h| ⟨b,off,rfl,hc⟩
  { exact .inl h }
  { exact .inr ⟨b,off,rfl,fun i hi=>hg.cell (hc i hi) (fun e=>ho _ rfl (by cases e;rfl))⟩ }
theorem zar {b:Nat} {o:Obj} (h:w.heap[b]?=some o) (hg:w.grownBy w' (some B)) (hne:b≠B):w'.heap[b]?=some o:=by
  rw [hg.block b (zak h) (fun e=>hne (by cases e;rfl))];exact h
theorem zcu (h:zag w a xs) (B:Nat) (hB:w.heap.size≤B):xs= []∨Off B a:=by
  rcases h with h| ⟨b,off,rfl,hc⟩
  { exact .inl h }
  {
  by_cases h0:xs= []
  { exact .inl h0 }
  {
  refine .inr fun ad e=> ?_
  cases e;have:=zah (hc 0 (by cases xs with|nil=>exact absurd rfl h0|cons _ _=>simp))
  show b≠B
  have h2:b<w.heap.size:=this;omega
  }
  }
theorem zau (w:World) (o1 o2:Obj): ((w.alloc o1).alloc o2).heap[w.heap.size+1]?=some o2:=by
  have:=heap_alloc_last (w.alloc o1) o2
  rwa [World.size_alloc] at this
theorem zb9 (w:World) (o1 o2 o3:Obj): (((w.alloc o1).alloc o2).alloc o3).heap[w.heap.size+1+1]?=some o3:=by
  have:=heap_alloc_last ((w.alloc o1).alloc o2) o3
  rwa [World.size_alloc,World.size_alloc] at this
theorem zj3 (w:World) (o1 o2 o3 o4:Obj): ((((w.alloc o1).alloc o2).alloc o3).alloc o4).heap[w.heap.size+1+1+1]?=some o4:=by
  have:=heap_alloc_last (((w.alloc o1).alloc o2).alloc o3) o4
  rwa [World.size_alloc,World.size_alloc,World.size_alloc] at this
def unO (u:Un) (a:Option Addr) (n c:Nat):Obj:=.cells #[.slice a n c,.int .i64 u.fu,.bool u.up,.int .i64 u.n,.int .i64 u.hv] 82 (0,0)
def unv (u:Un) (a:Option Addr) (n c:Nat):Value:=.agg #[.slice a n c,.int .i64 u.fu,.bool u.up,.int .i64 u.n,.int .i64 u.hv]
def OwnU (w:World) (B:Nat) (u:Un):Prop:=∃a n c,w.heap[B]?=some (unO u a n c)∧zag w a u.ws∧u.ws.length=n∧n≤c∧n≤maxLen∧Off B a
def msv (m:Ms) (a:Option Addr) (n c:Nat):Value:=.agg #[.int .i64 m.k,.int .i64 m.u,.int .i64 m.n,.int .i64 m.at',.int .i64 m.im,.slice a n c,.bool m.y]
def msO (m:Ms) (a:Option Addr) (n c:Nat):Obj:=.cells #[.int .i64 m.k,.int .i64 m.u,.int .i64 m.n,.int .i64 m.at',.int .i64 m.im,.slice a n c,.bool m.y] 99 (0,0)
def za9 (w:World) (a:Option Addr) (l:List Ms):Prop:=
  l= []∨∃b,a=some ⟨b,0,none⟩∧∀i m,l[i]?=some m→m.ws= []∧
    w.cell? ⟨b,i * 7,none⟩=some (.int .i64 m.k)∧w.cell? ⟨b,i * 7+1,none⟩=some (.int .i64 m.u)∧w.cell? ⟨b,i * 7+2,none⟩=some (.int .i64 m.n)∧w.cell? ⟨b,i * 7+3,none⟩=some (.int .i64 m.at')∧
    w.cell? ⟨b,i * 7+4,none⟩=some (.int .i64 m.im)∧w.cell? ⟨b,i * 7+5,none⟩=some (.slice none 0 0)∧w.cell? ⟨b,i * 7+6,none⟩=some (.bool m.y)
theorem za9.below {l:List Ms} (h:za9 w a l) (hb:Below w.heap.size w w'):za9 w' a l:=by
  rcases h with h| ⟨b,rfl,hc⟩
  { exact .inl h }
  {
  refine .inr ⟨b,rfl,fun i m hi=> ?_⟩;obtain ⟨h0,h1,h2,h3,h4,h5,h6,h7⟩:=hc i m hi;exact⟨h0,by rw [hb.cell (zah h1)];exact h1,by rw [hb.cell (zah h2)];exact h2,by rw [hb.cell (zah h3)];exact h3,by rw [hb.cell (zah h4)];exact h4,by rw [hb.cell (zah h5)];exact h5,by rw [hb.cell (zah h6)];exact h6,by rw [hb.cell (zah h7)];exact h7⟩
  }
theorem zg1 {b:Nat} {m:Ms} {t:TypeId} (h0:m.ws= []) (h:w.heap[b]?=some (.cells #[.int .i64 m.k,.int .i64 m.u,.int .i64 m.n,.int .i64 m.at',.int .i64 m.im,.slice none 0 0,.bool m.y] t (0,0))):za9 w (some ⟨b,0,none⟩) [m]:=by
  refine .inr ⟨b,rfl,fun i x hi=> ?_⟩;have hlt:=(List.getElem?_eq_some_iff.1 hi).1
  simp at hlt
  subst hlt
  simp at hi
  subst hi;exact⟨h0,zaa h 0 _ rfl,zaa h 1 _ rfl,zaa h 2 _ rfl,zaa h 3 _ rfl,zaa h 4 _ rfl,zaa h 5 _ rfl,zaa h 6 _ rfl⟩
abbrev aM (m:Ms) (a:Option Addr) (n c:Nat):Array Value:=#[.int .i64 m.k,.int .i64 m.u,.int .i64 m.n,.int .i64 m.at',.int .i64 m.im,.slice a n c,.bool m.y]
abbrev aU (a:Option Addr) (n c:Nat) (u:Un):Array Value:=#[.slice a n c,.int .i64 u.fu,.bool u.up,.int .i64 u.n,.int .i64 u.hv]
end
section
open Go.RowKit
theorem zoq {ws:List Int} (h:64≤ws.length): (logR ws).length≤31:=by
  have:=zkg (secL ws (secN ws));rw [zc6 (by have:=zgk ws;omega)] at this;exact this
end
end Go.Proofs.YthmekfcgdfckaaaGreatDoor
