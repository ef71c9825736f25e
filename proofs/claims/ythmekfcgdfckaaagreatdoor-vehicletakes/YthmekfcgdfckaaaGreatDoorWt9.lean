/- Plain facts: what is done in turn is a list of changes, of which there is power for so many. Plain facts on logs: what the records are behind some of the changes of an Append, and behind all. Plain facts on logs: however far an Append came, the records are those of ahead; done, those and the new one, or those that are kept and the new one. Plain facts on logs: what an Append leaves behind, done in part and done. Plain facts for LogHolds and LogGoes: the flash behind an Append is a log, its records, and that it can be done again. The contracts of unit.within, Check, CheckMessage, is, stateOf, other, done. -/
import Derived.Test.YthmekfcgdfckaaaGreatDoorWt5
import Derived.Test.YthmekfcgdfckaaaGreatDoorWt8
set_option maxRecDepth 1000000
set_option maxHeartbeats 0
namespace Go.Proofs.YthmekfcgdfckaaaGreatDoor
variable {ws us r l:List Int} {f:Int} {keep:List (List Int)} {s:Nat} {a:Option Addr} {u:Un}
section
open Go.RowKit
def proC (p:Nat) (words:List Int):List (Nat×Option (Nat×Int)):=(List.range words.length).map (fun i=>(p+i,some (0,words.getD i 0)))
theorem zrx (p:Nat) (words:List Int): (proC p words).length=words.length:=by simp [proC]
theorem zt6 (p:Nat) (words:List Int):ProL p words words.length (proC p words):=by
  refine⟨zrx _ _,fun i hi=>⟨0, ?_⟩⟩
  simp [proC,hi]
def stC:Stp→List (Nat×Option (Nat×Int))
  | .inl s=>eraL s 32
  | .inr (p,words)=>proC p words
def StOk (L:Nat):Stp→Prop
  | .inl s=>s * 32+32≤L
  | .inr (p,words)=>p+words.length≤L∧okL words=true
theorem doS_chg {st:Stp} (h:chk ws f=0) (ho:StOk ws.length st):doS st ws f=chgS ws f (stC st):=by
  have hp:=zhq h;cases st with
  |inl s=>exact(chgS_era h (by simp only [StOk] at ho;omega)).symm
  |inr q=>obtain ⟨p,words⟩:=q;exact(chgS_pro h (zt6 p words) ho.1 ho.2).symm
theorem zux {cs:List (Nat×Option (Nat×Int))} (h:okL ws=true) (hc: ∀c∈cs,∀b x,c.2=some (b,x)→okW x=true):okL (zro cs ws)=true:=by
  induction cs generalizing ws with
  |nil=>exact h
  |cons c cs ih=>
    show okL (zro cs (ws.set c.1 (apW c.2 (ws.getD c.1 0))))=true
    refine ih ?_ (fun d hd=>hc d (List.mem_cons_of_mem _ hd))
    by_cases hlt:c.1<ws.length
    {
    apply okL_of
    intro i hi
    simp at hi
    by_cases e:c.1=i
    {
    subst e;have: (ws.set c.1 (apW c.2 (ws.getD c.1 0))).getD c.1 0=apW c.2 (ws.getD c.1 0):=by simp [hlt]
    rw [this];cases h2:c.2 with
    |none=>rfl
    |some p=>obtain ⟨b,x⟩:=p;exact and_ok (zk3 h _ hlt) (hc c List.mem_cons_self b x h2)
    }
    {
    have: (ws.set c.1 (apW c.2 (ws.getD c.1 0))).getD i 0=ws.getD i 0:=by simp [e]
    rw [this];exact zk3 h i hi
    }
    }
    {
    rw [List.set_eq_of_length_le (by omega)];exact h
    }
theorem stC_ok {L:Nat} {st:Stp} (h:StOk L st): ∀c∈stC st,∀b x,c.2=some (b,x)→okW x=true:=by
  intro c hc b x hx;cases st with
  |inl s=>simp [stC,eraL] at hc;obtain ⟨i,_,rfl⟩:=hc;cases hx
  |inr q=>
    obtain ⟨p,words⟩:=q;simp only [stC,proC,List.mem_map,List.mem_range] at hc;obtain ⟨i,hi,rfl⟩:=hc;simp only [Option.some.injEq,Prod.mk.injEq] at hx;rw [←hx.2];exact zk3 h.2 i hi
theorem zta {f' :Int} (h:chk ws f=0) (hl:us.length=ws.length) (hok:okL us=true) (h0: -1≤f') (h1:f' ≤100000):chk us f' =0:=by
  have q:=zhq h
  apply chk_ok
  { rw [hl];exact decide_eq_true q.1 }
  {
  unfold zc0;rw [hok];simp;omega
  }
theorem turn_chg (sts:List Stp) (ws:List Int) (f:Int) (h:chk ws f=0) (ho: ∀st∈sts,StOk ws.length st):turnS sts ws f=chgS ws f (sts.flatMap stC):=by
  induction sts generalizing ws f with
  |nil=>
    have:cnt f 0=0:=Nat.le_zero.1 (zr7 _ _)
    show(ws,f,(0:Int))=chgS ws f []
    unfold chgS;rw [List.length_nil,this,zsx this];have:burn f 0=f:=by unfold burn;split<;>simp
    rw [this];rfl
  |cons st sts ih=>
    have hd:=doS_chg h (ho st List.mem_cons_self);have q:=zhq h;rw [List.flatMap_cons]
    by_cases c:cnt f (stC st).length= (stC st).length
    {
    have e2: (doS st ws f).2.2=0:=by rw [hd];exact zsx c
    rw [zjb e2,hd,chgS_go c];have e1: (chgS ws f (stC st)).1=zro (stC st) ws:=by unfold chgS;rw [c,List.take_length]
    have e3: (chgS ws f (stC st)).2.1=burn f (stC st).length:=by unfold chgS;rw [c]
    rw [e1,e3];have bb:=zpr q.2.1 q.2.2.1 (Nat.le_of_eq c.symm);refine ih _ _ ?_ ?_
    { exact zta h (zrs _ _) (zux q.2.2.2 (stC_ok (ho st List.mem_cons_self))) bb.1 bb.2 }
    { rw [zrs];exact fun d hd=>ho d (List.mem_cons_of_mem _ hd) }
    }
    {
    have lt:cnt f (stC st).length< (stC st).length:=by have:=zr7 f (stC st).length;omega
    have e2: (doS st ws f).2.2≠0:=by
      rw [hd]
      show perr f (stC st).length≠0
      rw [zst lt];decide
    rw [zgx e2,hd,chgS_stop lt]
    }
theorem addL_ok {xs:List Int} (h:okL xs=true) (hr:recE r=0):okL (addL xs r)=true:=by
  have q:=zsa hr;unfold addL okL at *;rw [List.all_append,List.all_cons,h,q.2.2];have:okW (headS r.length)=true:=by unfold okW headS;simp;omega
  rw [this];rfl
theorem zvl {xs:List Int} (h:addE xs r=0):recE r=0:=by
  unfold addE at h
  split at h
  { rename_i h1;exact absurd h h1 }
  {
  rename_i h1;simpa using h1
  }
theorem zvd (rs:List (List Int)) (xs:List Int) (h:okL xs=true):okL (laidS rs xs).1=true:=by
  induction rs generalizing xs with
  |nil=>exact h
  |cons r rs ih=>
    by_cases e:addE xs r=0
    { rw [zex e];exact ih _ (addL_ok h (zvl e)) }
    {
    rw [zet e];rfl
    }
theorem zr2 (h:zcp ws f r keep=0):lchk ws f=0∧recE r=0∧(laidA r keep).2=0∧(fitsA ws r=true∨genN ws≠60000):=by
  unfold zcp at h
  split at h
  { rename_i h1;exact absurd h h1 }
  {
  rename_i h1
  split at h
  { rename_i h2;exact absurd h h2 }
  {
  rename_i h2
  split at h
  { rename_i h3;exact absurd h h3 }
  {
  rename_i h3
  split at h
  { simp at h }
  {
  rename_i h4
  refine⟨by simpa using h1,by simpa using h2,by simpa using h3, ?_⟩;cases hf:fitsA ws r
  { right;intro hg;exact h4 ⟨hf,hg⟩ }
  {
  left;rfl
  }
  }
  }
  }
  }
theorem ztj (h1:chk ws f=0) (h2:64≤ws.length) (h3:genN ws≠0) (h4:genN ws≤60000):lchk ws f=0:=by
  have hs:secS ws f=0:=by unfold secS;rw [if_neg (by simpa using h1),if_neg (by omega)]
  unfold lchk;rw [if_neg (by simpa using hs),if_neg (by omega)]
theorem zsr {f' :Int} (h:lchk ws f=0) (h0: -1≤f') (h1:f' ≤100000):lchk ws f' =0:=by
  have q:=zdm h;exact ztj (chk_fuel q.1 h0 h1) q.2.1 q.2.2.2.2.1 q.2.2.2.2.2
def appC (ws r:List Int) (keep:List (List Int)):List (Nat×Option (Nat×Int)):=(zg4 ws r keep).flatMap stC
theorem zvm {n:Nat} (h:n≤4):okW (headS n)=true:=by unfold okW headS;simp;omega
theorem zr0 (h:fitsA ws r=true):zce (restS ws)=true∧r.length< (restS ws).length:=by
  unfold fitsA at h
  simpa using h
theorem ztw (h:zcp ws f r keep=0): ∀st∈zg4 ws r keep,StOk ws.length st:=by
  have q:=zr2 h;have l:=zdm q.1;have rr:=zsa q.2.1;have hf:=zrt l.2.1;have hs:=zgk ws;intro st hst;unfold zg4 at hst
  split at hst
  {
  rename_i hfit
  have hp:=zr0 hfit;simp only [List.mem_cons,List.not_mem_nil,or_false] at hst
  rcases hst with rfl|rfl
  { exact⟨by unfold headP;rcases hs with e|e<;>rw [e]<;>omega,rr.2.2⟩ }
  { exact⟨by unfold headP;simp only [List.length_cons,List.length_nil];rcases hs with e|e<;>rw [e]<;>omega,by unfold okL;rw [List.all_cons,zvm rr.2.1];rfl⟩ }
  }
  {
  rename_i hfit
  simp only [List.mem_cons,List.not_mem_nil,or_false] at hst;have hl: (laidA r keep).1.length≤31:=zsb _ _ (by simp);have hg:=q.2.2.2.resolve_left hfit;have hgn:=zo5 l.2.2.2.1 l.2.1
  rcases hst with rfl|rfl|rfl
  {
  show(1 - secN ws)* 32+32≤_
  omega
  }
  { exact⟨by omega,zvd _ _ rfl⟩ }
  {
  refine⟨by simp only [List.length_cons,List.length_nil];omega, ?_⟩;unfold okL;rw [List.all_cons];have:okW (genN ws+1)=true:=by unfold okW;simp;omega
  rw [this];rfl
  }
  }
theorem ztp (h:zcp ws f r keep=0):appS ws f r keep=chgS ws f (appC ws r keep):=by
  unfold appS;rw [if_neg (by simpa using h)];exact turn_chg _ _ _ (zdm (zr2 h).1).1 (ztw h)
theorem zsv (h:zcp ws f r keep≠0):appS ws f r keep= ([],0,zcp ws f r keep):=by
  unfold appS;rw [if_pos h]
end
section
open Go.RowKit
theorem take_getD {xs ys:List Int} {k:Nat} (h: ∀i,i<k→xs.getD i 0=ys.getD i 0) (hx:k≤xs.length) (hy:k≤ys.length):xs.take k=ys.take k:=by
  apply zr4 (by simp;omega)
  intro i hi
  simp at hi
  have:=h i (by omega)
  simpa [show i<k by omega] using this
theorem zvh (hl:us.length=ws.length) (h: ∀i,s * 32+1≤i→i<s * 32+32→us.getD i 0=ws.getD i 0):secL us s=secL ws s:=by
  unfold secL
  apply zr4 (by simp [hl])
  intro i hi
  simp at hi
  have:=h (s * 32+1+i) (by omega) (by omega)
  simpa [show i<31 by omega] using this
theorem zsm (h:us.getD (s * 32) 0=ws.getD (s * 32) 0):genS us s=genS ws s:=by unfold genS;rw [h]
theorem recs_ok (h:lchk ws f=0):recsS ws f= (logR ws,0):=by unfold recsS;rw [if_neg (by simpa using h)]
theorem zs1 {cs:List (Nat×Option (Nat×Int))} {i:Nat} (h: ∀c∈cs,c.1≠i): (zro cs ws).getD i 0=ws.getD i 0:=by
  induction cs generalizing ws with
  |nil=>rfl
  |cons c cs ih=>
    show(zro cs (ws.set c.1 (apW c.2 (ws.getD c.1 0)))).getD i 0=_
    rw [ih (fun d hd=>h d (List.mem_cons_of_mem _ hd))];have:=h c List.mem_cons_self
    simp [this]
theorem stC_far {st:Stp} {c:Nat×Option (Nat×Int)} (hc:c∈stC st):match st with
    | .inl s=>s * 32≤c.1∧c.1<s * 32+32
    | .inr (p,words)=>p≤c.1∧c.1<p+words.length:=by
  cases st with
  |inl s=>simp [stC,eraL] at hc;obtain ⟨i,hi,rfl⟩:=hc;simp only;omega
  |inr q=>obtain ⟨p,words⟩:=q;simp only [stC,proC,List.mem_map,List.mem_range] at hc;obtain ⟨i,hi,rfl⟩:=hc;simp only;omega
theorem zvt (k:Nat) (l:List Int): (zb6 k l).2.length≤l.length:=by
  induction k generalizing l with
  |zero=>simp [zb6]
  |succ k ih=>
    rw [zci]
    split
    { simp }
    {
    have:=ih (l.drop (1+longS l))
    simp at this⊢
    omega
    }
theorem zts (l:List Int): (za7 l).2.length≤l.length:=zvt _ _
theorem zv1 {l' :List Int} (h:l.getD 0 0=l'.getD 0 0) (hl:l.length=l'.length):longS l=longS l' :=by
  cases l with
  |nil=>cases l' with
    |nil=>rfl
    |cons _ _=>simp at hl
  |cons x r=>cases l' with
    |nil=>simp at hl
    |cons y r' =>
      simp at h hl
      simp only [longS];rw [h,hl]
theorem zwc: ∀(N:Nat) (l:List Int),l.length≤N→∀(rest' :List Int),rest'.length= (za7 l).2.length→
    za7 (l.take (l.length - (za7 l).2.length)++rest')= ((za7 l).1++(za7 rest').1,(za7 rest').2):=by
  intro N
  induction N with
  |zero=>
    intro l hl rest' hr;have:l= []:=List.eq_nil_of_length_eq_zero (by omega);subst this;have h0:za7 ([]:List Int)= ([], []):=rfl;rw [h0] at hr⊢
    simp at hr
    subst hr;rfl
  |succ N ih=>
    intro l hl rest' hr
    by_cases h0:longS l=0
    {
    rw [zov h0] at hr⊢
    simp
    }
    {
    have hlt:=zon (l:=l) (by omega);have hst:=zpq h0;obtain ⟨n,hn⟩: ∃n,n=longS l:=⟨_,rfl⟩;rw [←hn] at hst hlt h0;have hrl:=zts (l.drop (1+n));rw [List.length_drop] at hrl;have e2: (za7 l).2= (za7 (l.drop (1+n))).2:=by rw [hst]
    rw [e2] at hr;have hih:=ih (l.drop (1+n)) (by simp;omega) rest' hr;obtain ⟨m,hm⟩: ∃m,m= (za7 (l.drop (1+n))).2.length:=⟨_,rfl⟩;rw [←hm] at hih hr hrl;rw [List.length_drop] at hih;have e3:l.length - (za7 l).2.length=l.length - m:=by rw [e2,hm]
    rw [e3];have hlen: (l.take (l.length - m)++rest').length=l.length:=by simp [hr];omega
    have hlong:longS (l.take (l.length - m)++rest')=n:=by
      rw [hn];refine zv1 ?_ hlen;cases l with
      |nil=>simp at hlt
      |cons x t=>
        have:0< (x::t).length - m:=by omega
        obtain ⟨q,hq⟩: ∃q,(x::t).length - m=q+1:=⟨(x::t).length - m - 1,by omega⟩;rw [hq];rfl
    have hne:longS (l.take (l.length - m)++rest')≠0:=by rw [hlong];exact h0
    rw [zpq hne,hlong];have hd: (l.take (l.length - m)++rest').drop (1+n)= (l.drop (1+n)).take (l.length - (1+n)- m)++rest' :=by
      rw [List.drop_append_of_le_length (by simp;omega),List.drop_take]
      congr 2
      omega
    have ht: ((l.take (l.length - m)++rest').drop 1).take n= (l.drop 1).take n:=by
      rw [List.drop_append_of_le_length (by simp;omega),List.take_append_of_le_length (by simp;omega),List.drop_take,List.take_take]
      congr 1
      omega
    rw [hd,ht,hih,hst]
    simp
    }
theorem zv0 (l:List Int):l=l.take (l.length - (za7 l).2.length)++(za7 l).2:=by
  have: ∀(N:Nat) (l:List Int),l.length≤N→l=l.take (l.length - (za7 l).2.length)++(za7 l).2:=by
    intro N
    induction N with
    |zero=>
      intro l hl;have:l= []:=List.eq_nil_of_length_eq_zero (by omega);subst this;rfl
    |succ N ih=>
      intro l hl
      by_cases h0:longS l=0
      { rw [zov h0];simp }
      {
      have hlt:=zon (l:=l) (by omega);have hst:=zpq h0;have hih:=ih (l.drop (1+longS l)) (by simp;omega);have e2: (za7 l).2= (za7 (l.drop (1+longS l))).2:=by rw [hst]
      have hrl:=zts (l.drop (1+longS l));rw [List.length_drop] at hrl hih;rw [e2];obtain ⟨R,hR⟩: ∃R,R= (za7 (l.drop (1+longS l))).2:=⟨_,rfl⟩;rw [←hR] at hih hrl⊢;have h1:l=l.take (1+longS l)++l.drop (1+longS l):=(List.take_append_drop _ _).symm;have h2:l.take (l.length - R.length)=l.take (1+longS l)++(l.drop (1+longS l)).take (l.length - (1+longS l)- R.length):=by
        conv=>lhs;rw [show l.length - R.length= (1+longS l)+(l.length - (1+longS l)- R.length) by omega]
        rw [List.take_add]
      rw [h2,List.append_assoc,←hih];exact h1
      }
  exact this l.length l (Nat.le_refl _)
theorem ztx (h:zce l=true):longS l=0:=by
  cases l with
  |nil=>rfl
  |cons x r=>
    unfold zce at h
    simp at h
    simp only [longS];rw [if_neg (by omega)]
theorem zu3 (n:Nat):zce (List.replicate n 65535)=true:=by
  unfold zce
  simp
theorem zuz {rest:List Int} (hr:recE r=0) (t:List (List Int)×List Int) (ht:za7 rest=t):za7 (headS r.length::r++rest)= (r::t.1,t.2):=by
  have q:=zsa hr;have hl:longS (headS r.length::r++rest)=r.length:=by
    show longS (headS r.length::(r++rest))=_
    simp only [longS];unfold headS;rw [if_pos (by simp;omega)];omega
  rw [zpq (by rw [hl];omega),hl];have h1: (headS r.length::r++rest).drop (1+r.length)=rest:=by
    rw [Nat.add_comm]
    simp
  have h2: ((headS r.length::r++rest).drop 1).take r.length=r:=by simp
  rw [h1,h2,ht]
def flat (rs:List (List Int)):List Int:=rs.flatMap (fun r=>headS r.length::r)
theorem zv3 (rs:List (List Int)) (xs:List Int) (h: (laidS rs xs).2=0): (laidS rs xs).1=xs++flat rs∧∀r∈rs,recE r=0:=by
  induction rs generalizing xs with
  |nil=>exact⟨by simp [laidS,flat],by simp⟩
  |cons r rs ih=>
    by_cases e:addE xs r=0
    {
    rw [zex e] at h⊢;obtain ⟨h1,h2⟩:=ih _ h;refine⟨by rw [h1];simp [addL,flat],fun q hq=> ?_⟩
    rcases List.mem_cons.1 hq with rfl|hq
    { exact zvl e }
    { exact h2 q hq }
    }
    {
    rw [zet e] at h;exact absurd h e
    }
theorem zwb (rs:List (List Int)) (rest:List Int) (h: ∀r∈rs,recE r=0) (hc:zce rest=true):za7 (flat rs++rest)= (rs,rest):=by
  induction rs with
  |nil=>exact zov (ztx hc)
  |cons r rs ih=>
    have:=zuz (rest:=flat rs++rest) (h r List.mem_cons_self) _ (ih (fun q hq=>h q (List.mem_cons_of_mem _ hq)));have e:flat (r::rs)++rest=headS r.length::r++(flat rs++rest):=by simp [flat]
    rw [e];exact this
end
section
open Go.RowKit
theorem genS_all (h:ws.getD (s * 32) 0=65535):genS ws s=0:=by unfold genS;rw [if_pos h]
theorem genS_word {x:Int} (h:ws.getD (s * 32) 0=x) (hx:x≠65535):genS ws s=x:=by unfold genS;rw [h,if_neg hx]
theorem zvr (ws:List Int):genN ws=genS ws (secN ws):=by
  unfold genN secN
  split<;>rfl
theorem sec_of (hs:s=0∨s=1) (h:genS us (1 - s)<genS us s):secN us=s∧genN us=genS us s:=by
  rcases hs with rfl|rfl
  {
  have: ¬genS us 0<genS us 1:=by simp at h;omega
  unfold secN genN;rw [if_neg this,if_neg this];exact⟨rfl,rfl⟩
  }
  {
  have:genS us 0<genS us 1:=by simpa using h
  unfold secN genN;rw [if_pos this,if_pos this];exact⟨rfl,rfl⟩
  }
theorem rest_at (h:64≤ws.length) (i:Nat) (hi:i< (restS ws).length): (restS ws).getD i 0=ws.getD (headP ws+i) 0:=by
  have hs:=zgk ws;have hl: (secL ws (secN ws)).length=31:=zc6 (by omega);have hf:=zrt h;have hsp:=zv0 (secL ws (secN ws));have hr: (za7 (secL ws (secN ws))).2=restS ws:=rfl;rw [hr,hl] at hsp;have h1: (secL ws (secN ws)).getD (31 - (restS ws).length+i) 0= (restS ws).getD i 0:=by
    rw [hsp];have: ((secL ws (secN ws)).take (31 - (restS ws).length)).length=31 - (restS ws).length:=by rw [List.length_take,hl];omega
    simp only [List.getD_eq_getElem?_getD];rw [List.getElem?_append_right (by rw [this];omega),this]
    congr 2
    omega
  rw [←h1];unfold secL headP;simp only [List.getD_eq_getElem?_getD];rw [List.getElem?_take_of_lt (by omega),List.getElem?_drop]
  congr 2
  omega
theorem zt5 (h:64≤ws.length) (hl:us.length=ws.length) (hsame: ∀i,i<64→i<headP ws∨(secN ws+1)* 32≤i→us.getD i 0=ws.getD i 0):
    secN us=secN ws∧genN us=genN ws∧secL us (secN ws)= (secL ws (secN ws)).take (31 - (restS ws).length)++(secL us (secN ws)).drop (31 - (restS ws).length):=by
  have hs:=zgk ws;have hf:=zrt h;have hh:headP ws+(restS ws).length= (secN ws+1)* 32:=by unfold headP;omega
  have g: ∀s,s=0∨s=1→genS us s=genS ws s:=fun s hs' =>zsm (hsame _ (by omega) (by omega))
  have e0:=g 0 (.inl rfl);have e1:=g 1 (.inr rfl);refine⟨by unfold secN;rw [e0,e1],by unfold genN;rw [e0,e1], ?_⟩;have hl1: (secL ws (secN ws)).length=31:=zc6 (by omega);have hl2: (secL us (secN ws)).length=31:=zc6 (by omega)
  conv=>lhs;rw [←List.take_append_drop (31 - (restS ws).length) (secL us (secN ws))]
  congr 1
  apply take_getD ?_ (by omega) (by omega)
  intro i hi;unfold secL;simp only [List.getD_eq_getElem?_getD];rw [List.getElem?_take_of_lt (by omega),List.getElem?_drop,List.getElem?_take_of_lt (by omega),List.getElem?_drop];have:=hsame (secN ws * 32+1+i) (by omega) (by omega)
  simpa only [List.getD_eq_getElem?_getD] using this
theorem zua (h:64≤ws.length) (hl:us.length=ws.length) (hsame: ∀i,i<64→i<headP ws∨(secN ws+1)* 32≤i→us.getD i 0=ws.getD i 0):
    logR us=logR ws++(za7 ((secL us (secN ws)).drop (31 - (restS ws).length))).1:=by
  obtain ⟨h1,_,h3⟩:=zt5 h hl hsame;have hs:=zgk ws;have hl1: (secL ws (secN ws)).length=31:=zc6 (by omega);have hl2: (secL us (secN ws)).length=31:=zc6 (by omega);have hf:=zrt h;have:=zwc 31 (secL ws (secN ws)) (by omega) ((secL us (secN ws)).drop (31 - (restS ws).length)) (by rw [List.length_drop,hl2];show _= (restS ws).length;omega);rw [hl1,show(za7 (secL ws (secN ws))).2=restS ws from rfl,←h3] at this;unfold logR;rw [h1,this]
theorem rest_us (h:64≤ws.length): (secL us (secN ws)).drop (31 - (restS ws).length)= (us.drop (headP ws)).take (restS ws).length:=by
  have hs:=zgk ws;have hf:=zrt h;unfold secL headP;rw [List.drop_take,List.drop_drop]
  congr 1
  { omega }
  {
  congr 1
  omega
  }
end
section
open Go.RowKit
theorem zvi (h:l.getD 0 0=65535):longS l=0:=by
  cases l with
  |nil=>rfl
  |cons x r=>
    simp at h
    simp only [longS];rw [if_neg (by omega)]
theorem zu0 (h:zce l=true) (i:Nat) (hi:i<l.length):l.getD i 0=65535:=by
  unfold zce at h;rw [List.all_eq_true] at h;have:=h l[i] (List.getElem_mem hi);rw [zk5 hi]
  simpa using this
theorem zsf (l:List Int) (p m i:Nat) (hi:i<m): ((l.drop p).take m).getD i 0=l.getD (p+i) 0:=by
  simp only [List.getD_eq_getElem?_getD];rw [List.getElem?_take_of_lt hi,List.getElem?_drop]
theorem zr6 {words:List Int} {p:Nat} (hf:p+words.length≤ws.length):zro (proC p words) ws=chg (andW words) p words.length ws:=by
  have:=zs4 (zt6 p words) hf words.length (Nat.le_refl _);rw [←this,List.take_of_length_le (by rw [zrx];exact Nat.le_refl _)]
theorem fit_stay (hk:lchk ws f=0) (hfit:fitsA ws r=true) (k:Nat) (hkr:k≤r.length):logR (chg (andW r) (headP ws+1) k ws)=logR ws∧genN (chg (andW r) (headP ws+1) k ws)=genN ws:=by
  have q:=zdm hk;have hp:=zr0 hfit;have hs:=zgk ws;have hf:=zrt q.2.1;have hh:headP ws+(restS ws).length= (secN ws+1)* 32:=by unfold headP;omega
  have hsame: ∀i,i<64→i<headP ws∨(secN ws+1)* 32≤i→(chg (andW r) (headP ws+1) k ws).getD i 0=ws.getD i 0:=fun i hi hc=>by
    rw [zrq _ _ _ _ _ (by omega),if_neg (by omega)]
  refine⟨?_,(zt5 q.2.1 (zbw _ _ _ _) hsame).2.1⟩;rw [zua q.2.1 (zbw _ _ _ _) hsame,rest_us q.2.1];have h0: (((chg (andW r) (headP ws+1) k ws).drop (headP ws)).take (restS ws).length).getD 0 0=65535:=by
    rw [zsf _ _ _ _ (by omega),zrq _ _ _ _ _ (by omega),if_neg (by omega),←rest_at q.2.1 0 (by omega)];exact zu0 hp.1 0 (by omega)
  rw [zov (zvi h0)]
  simp
theorem fit_new (hk:lchk ws f=0) (hr:recE r=0) (hfit:fitsA ws r=true):
    logR (chg (andW [headS r.length]) (headP ws) 1 (chg (andW r) (headP ws+1) r.length ws))=logR ws++ [r]∧genN (chg (andW [headS r.length]) (headP ws) 1 (chg (andW r) (headP ws+1) r.length ws))=genN ws:=by
  have q:=zdm hk;have rr:=zsa hr;have hp:=zr0 hfit;have hs:=zgk ws;have hf:=zrt q.2.1;have hh:headP ws+(restS ws).length= (secN ws+1)* 32:=by unfold headP;omega
  obtain ⟨us,hus⟩: ∃us,us=chg (andW [headS r.length]) (headP ws) 1 (chg (andW r) (headP ws+1) r.length ws):=⟨_,rfl⟩;have hlen:us.length=ws.length:=by rw [hus,zbw,zbw]
  have hget: ∀i,i<64→us.getD i 0=if i=headP ws then andW [headS r.length] 0 (ws.getD i 0) else if headP ws+1≤i∧i<headP ws+1+r.length then andW r (i - (headP ws+1)) (ws.getD i 0) else ws.getD i 0:=fun i hi=>by
    rw [hus,zrq _ _ _ _ _ (by rw [zbw];omega),zrq _ _ _ _ _ (by omega)]
    by_cases c:i=headP ws
    {
    rw [if_pos (by omega),if_pos c,if_neg (by omega)]
    congr 1
    omega
    }
    { rw [if_neg (by omega),if_neg c] }
  have hsame: ∀i,i<64→i<headP ws∨(secN ws+1)* 32≤i→us.getD i 0=ws.getD i 0:=fun i hi hc=>by
    rw [hget i hi,if_neg (by omega),if_neg (by omega)]
  rw [←hus];refine⟨?_,(zt5 q.2.1 hlen hsame).2.1⟩;rw [zua q.2.1 hlen hsame,rest_us q.2.1];have hold: ∀i,i< (restS ws).length→ws.getD (headP ws+i) 0=65535:=fun i hi=>by rw [←rest_at q.2.1 i hi];exact zu0 hp.1 i hi
  have hwords: (us.drop (headP ws)).take (restS ws).length=headS r.length::r++List.replicate ((restS ws).length - 1 - r.length) 65535:=by
    apply zr4
    { simp [hlen];omega }
    {
    intro i hi;have hi' :i< (restS ws).length:=by simp at hi;omega
    rw [zsf _ _ _ _ hi',hget _ (by omega),hold i hi']
    by_cases c0:i=0
    {
    subst c0;rw [if_pos (by omega)]
    show bits .and .i64 65535 (headS r.length)=_
    rw [zs0 (zvm rr.2.1)];rfl
    }
    {
    rw [if_neg (by omega)];obtain ⟨j,rfl⟩: ∃j,i=j+1:=⟨i - 1,by omega⟩
    by_cases c1:j<r.length
    {
    rw [if_pos (by omega)];have e:headP ws+(j+1)- (headP ws+1)=j:=by omega
    rw [e]
    show bits .and .i64 65535 (r.getD j 0)=_
    rw [zs0 (zk3 rr.2.2 j c1),List.cons_append];simp only [List.getD_eq_getElem?_getD,List.getElem?_cons_succ];rw [List.getElem?_append_left c1]
    }
    {
    rw [if_neg (by omega)];rw [List.cons_append];simp only [List.getD_eq_getElem?_getD,List.getElem?_cons_succ];rw [List.getElem?_append_right (by omega),List.getElem?_replicate,if_pos (by omega)];rfl
    }
    }
    }
  rw [hwords,zuz hr _ rfl,zov (ztx (zu3 _))]
theorem swap_stay (hk:lchk ws f=0) (hl:us.length=ws.length) (hsame: ∀i,secN ws * 32≤i→i<secN ws * 32+32→us.getD i 0=ws.getD i 0) (hz:us.getD ((1 - secN ws)* 32) 0=65535):logR us=logR ws∧genN us=genN ws:=by
  have q:=zdm hk;have hs:=zgk ws;have hgn:=zo5 q.2.2.2.1 q.2.1;have e1:genS us (secN ws)=genN ws:=by rw [zvr];exact zsm (hsame _ (Nat.le_refl _) (by omega))
  have e0:genS us (1 - secN ws)=0:=genS_all hz;obtain ⟨h1,h2⟩:=sec_of hs (show genS us (1 - secN ws)<genS us (secN ws) by rw [e0,e1];omega);refine⟨?_,by rw [h2,e1]⟩;unfold logR;rw [h1,zvh hl (fun i h3 h4=>hsame i (by omega) h4)]
theorem swap_new (hk:lchk ws f=0) (hla: (laidA r keep).2=0) (hl:us.length=ws.length) (hsame:us.getD (secN ws * 32) 0=ws.getD (secN ws * 32) 0) (hz:us.getD ((1 - secN ws)* 32) 0=genN ws+1)
    (hw: ∀i,i<31→us.getD ((1 - secN ws)* 32+1+i) 0=if i< (laidA r keep).1.length then(laidA r keep).1.getD i 0 else 65535):logR us=keep++ [r]∧genN us=genN ws+1:=by
  have q:=zdm hk;have hs:=zgk ws;have hgn:=zo5 q.2.2.2.1 q.2.1;have e1:genS us (secN ws)=genN ws:=by rw [zvr];exact zsm hsame
  have e0:genS us (1 - secN ws)=genN ws+1:=genS_word hz (by omega);have hoo:1 - (1 - secN ws)=secN ws:=by omega
  obtain ⟨h1,h2⟩:=sec_of (s:=1 - secN ws) (by omega) (show genS us (1 - (1 - secN ws))<genS us (1 - secN ws) by rw [hoo,e0,e1];omega);refine⟨?_,by rw [h2,e0]⟩;unfold logR;rw [h1];obtain ⟨f1,f2⟩:=zv3 (keep++ [r]) [] hla;have hfl: (laidA r keep).1=flat (keep++ [r]):=by
    show(laidS (keep++ [r]) []).1=_
    rw [f1];simp
  have hle: (laidA r keep).1.length≤31:=zsb _ _ (by simp);have:secL us (1 - secN ws)=flat (keep++ [r])++List.replicate (31 - (laidA r keep).1.length) 65535:=by
    rw [←hfl]
    apply zr4
    { rw [zc6 (by omega)];simp;omega }
    {
    intro i hi;rw [zc6 (by omega)] at hi;unfold secL;rw [zsf _ _ _ _ hi,hw i hi]
    by_cases c:i< (laidA r keep).1.length
    {
    rw [if_pos c];simp only [List.getD_eq_getElem?_getD];rw [List.getElem?_append_left c]
    }
    {
    rw [if_neg c];simp only [List.getD_eq_getElem?_getD];rw [List.getElem?_append_right (by omega),List.getElem?_replicate];rw [if_pos (by omega)];rfl
    }
    }
  rw [this,zwb _ _ f2 (zu3 _)]
theorem eraL_cons (o:Nat):eraL o 32= (32 * o,none)::(List.range 31).map (fun i=>(32 * o+(i+1),none)):=by
  unfold eraL;rw [List.range_succ_eq_map]
  simp [Function.comp_def]
theorem zvq (h:zcp ws f r keep=0) (k:Nat) (hk:k< (appC ws r keep).length):logR (zro ((appC ws r keep).take k) ws)=logR ws∧genN (zro ((appC ws r keep).take k) ws)=genN ws:=by
  have q:=zr2 h;have l:=zdm q.1;have rr:=zsa q.2.1;have hs:=zgk ws;have hf:=zrt l.2.1
  by_cases k0:k=0
  { subst k0;exact⟨rfl,rfl⟩ }
  cases hfit:fitsA ws r
  {
  have hC:appC ws r keep=eraL (1 - secN ws) 32++(proC ((1 - secN ws)* 32+1) (laidA r keep).1++proC ((1 - secN ws)* 32) [genN ws+1]):=by
    unfold appC zg4;rw [if_neg (by simp [hfit])];simp [stC]
  have hle: (laidA r keep).1.length≤31:=zsb _ _ (by simp);rw [hC] at hk⊢;have hk2:k≤32+(laidA r keep).1.length:=by
    simp only [List.length_append,zss,zrx,List.length_cons,List.length_nil] at hk;omega
  rw [←List.append_assoc,List.take_append_of_le_length (by simp only [List.length_append,zss,zrx];exact hk2)];obtain ⟨k',rfl⟩: ∃k',k=k' +1:=⟨k - 1,by omega⟩;rw [eraL_cons,List.cons_append,List.take_succ_cons];have hmem: ∀c∈((List.range 31).map (fun i=>(32 *(1 - secN ws)+(i+1),(none:Option (Nat×Int))))++proC ((1 - secN ws)* 32+1) (laidA r keep).1).take k',(1 - secN ws)* 32+1≤c.1∧c.1< (1 - secN ws)* 32+32:=by
    intro c hc;have hc:=List.mem_of_mem_take hc;rw [List.mem_append] at hc
    rcases hc with hc|hc
    {
    simp only [List.mem_map,List.mem_range] at hc;obtain ⟨i,hi,rfl⟩:=hc;simp only;omega
    }
    {
    have:=stC_far (st:=.prg ((1 - secN ws)* 32+1) (laidA r keep).1) hc;simp only at this;omega
    }
  refine swap_stay q.1 (by rw [zrs]) ?_ ?_
  {
  intro i h1 h2
  show(zro _ (ws.set (32 *(1 - secN ws)) 65535)).getD i 0=_
  rw [zs1 (fun c hc=>by have:=hmem c hc;omega)];have:32 *(1 - secN ws)≠i:=by omega
  simp [this]
  }
  {
  show(zro _ (ws.set (32 *(1 - secN ws)) 65535)).getD _ 0=_
  rw [zs1 (fun c hc=>by have:=hmem c hc;omega)];have: (1 - secN ws)* 32<ws.length:=by omega
  rw [Nat.mul_comm 32]
  simp [this]
  }
  }
  {
  have hp:=zr0 hfit;have hh:headP ws+(restS ws).length= (secN ws+1)* 32:=by unfold headP;omega
  have hC:appC ws r keep=proC (headP ws+1) r++proC (headP ws) [headS r.length]:=by
    unfold appC zg4;rw [if_pos hfit];simp [stC]
  rw [hC] at hk⊢;have hk2:k≤r.length:=by simp only [List.length_append,zrx,List.length_cons,List.length_nil] at hk;omega
  rw [List.take_append_of_le_length (by rw [zrx];exact hk2),zs4 (zt6 _ _) (by omega) k hk2];exact fit_stay q.1 hfit k hk2
  }
theorem app_new (h:zcp ws f r keep=0): (logR (zro (appC ws r keep) ws)=logR ws++ [r]∨logR (zro (appC ws r keep) ws)=keep++ [r])∧genN (zro (appC ws r keep) ws)≠0∧genN (zro (appC ws r keep) ws)≤60000∧genN (zro (appC ws r keep) ws)≤genN ws+1:=by
  have q:=zr2 h;have l:=zdm q.1;have rr:=zsa q.2.1;have hs:=zgk ws;have hf:=zrt l.2.1;have hgn:=zo5 l.2.2.2.1 l.2.1;cases hfit:fitsA ws r
  {
  have hg:=q.2.2.2.resolve_left (by simp [hfit]);have hC:appC ws r keep=eraL (1 - secN ws) 32++(proC ((1 - secN ws)* 32+1) (laidA r keep).1++proC ((1 - secN ws)* 32) [genN ws+1]):=by
    unfold appC zg4;rw [if_neg (by simp [hfit])];simp [stC]
  have hle: (laidA r keep).1.length≤31:=zsb _ _ (by simp);have hlok:okL (laidA r keep).1=true:=zvd _ _ rfl;have hE:zro (appC ws r keep) ws=chg (andW [genN ws+1]) ((1 - secN ws)* 32) 1 (chg (andW (laidA r keep).1) ((1 - secN ws)* 32+1) (laidA r keep).1.length (chg (fun _ _=>65535) ((1 - secN ws)* 32) 32 ws)):=by
    rw [hC,zr8,zr8,zuf,zr6 (p:=(1 - secN ws)* 32+1) (words:=(laidA r keep).1) (by rw [zbw];omega),zr6 (p:=(1 - secN ws)* 32) (by rw [zbw,zbw];simp only [List.length_cons,List.length_nil];omega)];rfl
  rw [hE];obtain ⟨us,hus⟩: ∃us,us=chg (andW [genN ws+1]) ((1 - secN ws)* 32) 1 (chg (andW (laidA r keep).1) ((1 - secN ws)* 32+1) (laidA r keep).1.length (chg (fun _ _=>65535) ((1 - secN ws)* 32) 32 ws)):=⟨_,rfl⟩;rw [←hus];have hlen:us.length=ws.length:=by rw [hus,zbw,zbw,zbw]
  have hokg:okW (genN ws+1)=true:=by unfold okW;simp;omega
  have hnew:=swap_new (r:=r) (keep:=keep) q.1 q.2.2.1 hlen ?_ ?_ ?_
  { exact⟨.inr hnew.1,by rw [hnew.2];omega,by rw [hnew.2];omega,by rw [hnew.2];omega⟩ }
  { rw [hus,zrq _ _ _ _ _ (by rw [zbw,zbw];omega),if_neg (by omega),zrq _ _ _ _ _ (by rw [zbw];omega),if_neg (by omega),zrq _ _ _ _ _ (by omega),if_neg (by omega)] }
  {
  rw [hus,zrq _ _ _ _ _ (by rw [zbw,zbw];omega),if_pos (by omega),zrq _ _ _ _ _ (by rw [zbw];omega),if_neg (by omega),zrq _ _ _ _ _ (by omega),if_pos (by omega)];rw [Nat.sub_self]
  show bits .and .i64 65535 (genN ws+1)=_
  exact zs0 hokg
  }
  {
  intro i hi;rw [hus,zrq _ _ _ _ _ (by rw [zbw,zbw];omega),if_neg (by omega),zrq _ _ _ _ _ (by rw [zbw];omega),zrq _ _ _ _ _ (by omega)]
  by_cases c:i< (laidA r keep).1.length
  {
  rw [if_pos (by omega),if_pos (by omega),if_pos c];have e: (1 - secN ws)* 32+1+i - ((1 - secN ws)* 32+1)=i:=by omega
  rw [e]
  show bits .and .i64 65535 ((laidA r keep).1.getD i 0)=_
  exact zs0 (zk3 hlok i c)
  }
  { rw [if_neg (by omega),if_pos (by omega),if_neg c] }
  }
  }
  {
  have hp:=zr0 hfit;have hh:headP ws+(restS ws).length= (secN ws+1)* 32:=by unfold headP;omega
  have hC:appC ws r keep=proC (headP ws+1) r++proC (headP ws) [headS r.length]:=by
    unfold appC zg4;rw [if_pos hfit];simp [stC]
  rw [hC,zr8,zr6 (p:=headP ws+1) (words:=r) (by omega),zr6 (p:=headP ws) (by rw [zbw];simp only [List.length_cons,List.length_nil];omega)];have:=fit_new q.1 q.2.1 hfit;exact⟨.inl this.1,by show genN (chg _ _ 1 _)≠0;rw [this.2];exact l.2.2.2.2.1,by show genN (chg _ _ 1 _)≤_;rw [this.2];exact l.2.2.2.2.2,by show genN (chg _ _ 1 _)≤_;rw [this.2];omega⟩
  }
end
section
open Go.RowKit
theorem appC_ok (h:zcp ws f r keep=0): ∀c∈appC ws r keep,∀b x,c.2=some (b,x)→okW x=true:=by
  intro c hc b x hx;unfold appC at hc;rw [List.mem_flatMap] at hc;obtain ⟨st,hst,hc⟩:=hc;exact stC_ok (ztw h st hst) c hc b x hx
theorem zvg {f' :Int} (h:zcp ws f r keep=0) (k:Nat) (hk:k≤(appC ws r keep).length) (h0: -1≤f') (h1:f' ≤100000):
    lchk (zro ((appC ws r keep).take k) ws) f' =0∧(k< (appC ws r keep).length→logR (zro ((appC ws r keep).take k) ws)=logR ws)∧(k= (appC ws r keep).length→logR (zro ((appC ws r keep).take k) ws)=logR ws++ [r]∨logR (zro ((appC ws r keep).take k) ws)=keep++ [r]):=by
  have q:=zr2 h;have l:=zdm q.1;have hok:okL (zro ((appC ws r keep).take k) ws)=true:=zux l.2.2.2.1 (fun c hc=>appC_ok h c (List.mem_of_mem_take hc));have hck:chk (zro ((appC ws r keep).take k) ws) f' =0:=zta l.1 (zrs _ _) hok h0 h1
  by_cases c:k< (appC ws r keep).length
  {
  have hs:=zvq h k c;exact⟨ztj hck (by rw [zrs];exact l.2.1) (by rw [hs.2];exact l.2.2.2.2.1) (by rw [hs.2];exact l.2.2.2.2.2),fun _=>hs.1,fun e=>by omega⟩
  }
  {
  have e:k= (appC ws r keep).length:=by omega
  have ht: (appC ws r keep).take k=appC ws r keep:=List.take_of_length_le (by omega);have hn:=app_new h;rw [ht] at hck⊢;exact⟨ztj hck (by rw [zrs];exact l.2.1) hn.2.1 hn.2.2.1,fun h=>absurd h c,fun _=>hn.1⟩
  }
theorem zto (h:zcp ws f r keep=0):
    (appS ws f r keep).1.length=ws.length∧(-1≤(appS ws f r keep).2.1∧(appS ws f r keep).2.1≤100000)∧(∀f',-1≤f' →f' ≤100000→lchk (appS ws f r keep).1 f' =0)∧
    ((appS ws f r keep).2.2=0∧(logR (appS ws f r keep).1=logR ws++ [r]∨logR (appS ws f r keep).1=keep++ [r])∨(appS ws f r keep).2.2=7∧logR (appS ws f r keep).1=logR ws):=by
  have q:=zr2 h;have l:=zdm q.1;have c:=zhq l.1;rw [ztp h];have hle:=zr7 f (appC ws r keep).length;have bb:=zpr (n:=(appC ws r keep).length) c.2.1 c.2.2.1 (Nat.le_refl (cnt f (appC ws r keep).length));refine⟨zrs _ _,bb,fun f' h0 h1=>(zvg h _ hle h0 h1).1, ?_⟩;have hp:=zvg h _ hle (f' := -1) (by decide) (by decide)
  by_cases e:cnt f (appC ws r keep).length= (appC ws r keep).length
  {
  left
  exact⟨zsx e,hp.2.2 e⟩
  }
  {
  right
  exact⟨zst (by omega),hp.2.1 (by omega)⟩
  }
theorem zoq (h:64≤ws.length): (logR ws).length≤31:=by
  have:=zkg (secL ws (secN ws));rw [zc6 (by have:=zgk ws;omega)] at this;exact this
end
section
open Go.RowKit
structure BW (w:World) (a:Option Addr) (n c:Nat) (ws:List Int):Prop where
  at_:zag w a ws
  len:ws.length=n
  cap:n≤c
  max:n≤maxLen
theorem BW.below {w w' :World} {n c:Nat} (h:BW w a n c ws) (hb:Below w.heap.size w w'):BW w' a n c ws:=⟨h.at_.below hb,h.len,h.cap,h.max⟩
theorem BW.bi {w:World} {n c:Nat} (h:BW w a n c ws):BI w a n ws:=⟨h.at_,h.len,h.max⟩
theorem BW.turns {w w' :World} {B:Nat} {n c:Nat} (h:BW w a n c ws) (hg:w.grownBy w' (some B)) (ho:Off B a):BW w' a n c ws:=⟨zax h.at_ hg ho,h.len,h.cap,h.max⟩
theorem inB_t {n a b:Int} (h0:a≤n) (h1:n≤b):inB n a b=true:=by unfold inB;simp;omega
theorem inB_lo {n a b:Int} (h0: ¬a≤n):inB n a b=false:=by unfold inB;simp;omega
theorem inB_hi {n a b:Int} (h0: ¬n≤b):inB n a b=false:=by unfold inB;simp;omega
theorem zbb (n a b:Int) (w:World):Calls Tryz.prog 176 #[.int .i64 n,.int .i64 a,.int .i64 b] w fun e w' =>e=.returned (.bool (inB n a b))∧w' =w:=by
  by_cases h0:a≤n
  {
  by_cases h1:n≤b
  {
  have hd:decide (n≤b)=true:=by simp;omega
  go_enter Tryz.func176,Tryz.ntmps176;go_wp2;go_ret;exact⟨zan (inB_t h0 h1).symm,rfl⟩
  }
  {
  have hd:decide (n≤b)=false:=by simp;omega
  go_enter Tryz.func176,Tryz.ntmps176;go_wp2;go_ret;exact⟨zan (inB_hi (by omega)).symm,rfl⟩
  }
  }
  {
  go_enter Tryz.func176,Tryz.ntmps176;go_wp2;go_ret;exact⟨zan (inB_lo (by omega)).symm,rfl⟩
  }
theorem unE_1 (h:lchk u.ws u.fu≠0):unE u=lchk u.ws u.fu:=by unfold unE;rw [if_pos h]
theorem unE_2 (h:lchk u.ws u.fu=0) (h2:u.ws.length≠192):unE u=4:=by unfold unE;rw [if_neg (by simpa using h),if_pos h2]
theorem unE_3 (h:lchk u.ws u.fu=0) (h2:u.ws.length=192) (h3: (inB u.n 0 8&&inB u.hv 0 40)=false):unE u=3:=by unfold unE;rw [if_neg (by simpa using h),if_neg (by simpa using h2),h3];rfl
theorem unE_0 (h:lchk u.ws u.fu=0) (h2:u.ws.length=192) (h3: (inB u.n 0 8&&inB u.hv 0 40)=true):unE u=0:=by unfold unE;rw [if_neg (by simpa using h),if_neg (by simpa using h2),h3];rfl
theorem zjw (h:unE u=0):lchk u.ws u.fu=0∧u.ws.length=192∧(0≤u.n∧u.n≤8)∧0≤u.hv∧u.hv≤40:=by
  unfold unE at h
  split at h
  { rename_i h1;exact absurd h h1 }
  {
  rename_i h1
  split at h
  { cases h }
  {
  rename_i h2
  split at h
  {
  rename_i h3
  rw [Bool.and_eq_true] at h3;unfold inB at h3
  simp at h3 h1 h2
  exact⟨h1,h2,h3.1,h3.2⟩
  }
  {
  cases h
  }
  }
  }
theorem zcz (u:Un) (a:Option Addr) (n c:Nat) (w:World) (h:BW w a n c u.ws):
    Calls Tryz.prog 110 #[unv u a n c] w fun e w' =>e=.returned (.int .i64 (unE u))∧Below w.heap.size w w' :=by
  have hw0:Below w.heap.size w (w.alloc (.cells (aU a n c u) 82)):=bA1;have b0:=hide (heap_alloc_last w (.cells (aU a n c u) 82));have HL:=hide (fun W (hW:Below w.heap.size w W)=>zd5 a n c u.ws u.fu W (h.below hW).at_ h.len h.max);have L:=hide h.len;have hm:=h.max;unfold maxLen at hm;unfold unv;clear h;have x0:=zaa b0.out 0 _ rfl;have x1:=zaa b0.out 1 _ rfl;go_enter Tryz.func110,Tryz.ntmps110;go_wp2_with fail;generalize w.alloc (.cells (aU a n c u) 82)=W at *;refine(zae HL _ hw0).mono ?_;rintro e w1 ⟨rfl,hb⟩;replace b0:=hide (zab b0.out hb);replace hw0:=bT hw0 hb;clear hb x0 x1 HL
  by_cases z1:lchk u.ws u.fu=0
  rotate_left
  {
  have HE:=hide (unE_1 z1);have hq: (lchk u.ws u.fu !=0)=true:=by simpa using z1
  clear z1;generalize lchk u.ws u.fu=q at *;go_wp2_with fail;go_ret;exact⟨zap HE.out.symm,hw0⟩
  }
  have E2:=hide (unE_2 z1);have E3:=hide (unE_3 z1);have E0:=hide (unE_0 z1);rw [z1];clear z1;have x0:=zaa b0.out 0 _ rfl;have x3:=zaa b0.out 3 _ rfl;have x4:=zaa b0.out 4 _ rfl
  by_cases z2:n=192
  rotate_left
  {
  have HE:=hide (E2.out (by rw [L.out];exact z2));have hq: ((n:Int) !=192)=true:=by simp;omega
  clear z2;go_wp2_with fail;go_ret;exact⟨zap HE.out.symm,hw0⟩
  }
  have hq: ((n:Int) !=192)=false:=by simp;omega
  have hl:=L.out.trans z2;replace E3:=hide (E3.out hl);replace E0:=hide (E0.out hl);clear z2 hl;cases g1:inB u.n 0 8
  {
  have HE:=hide (E3.out (by rw [g1];rfl))
  go_wp2_with (go_at_call 176;refine(zbb _ _ _ _).mono ?_;rintro e w' ⟨rfl,rfl⟩)
  go_ret;exact⟨zap HE.out.symm,hw0⟩
  }
  {
  cases g2:inB u.hv 0 40
  {
  have HE:=hide (E3.out (by rw [g1,g2];rfl))
  go_wp2_with (go_at_call 176;refine(zbb _ _ _ _).mono ?_;rintro e w' ⟨rfl,rfl⟩)
  go_ret;exact⟨zap HE.out.symm,hw0⟩
  }
  {
  have HE:=hide (E0.out (by rw [g1,g2];rfl))
  go_wp2_with (go_at_call 176;refine(zbb _ _ _ _).mono ?_;rintro e w' ⟨rfl,rfl⟩)
  go_ret;exact⟨zap HE.out.symm,hw0⟩
  }
  }
theorem msE_bad {m:Ms} (h:msB m=false):msE m=3:=by unfold msE;rw [h];rfl
theorem msE_ok {m:Ms} (h:msB m=true):msE m=0:=by unfold msE;rw [h];rfl
theorem ze9 (m:Ms) (a:Option Addr) (n c:Nat) (w:World) (h:BI w a n m.ws):
    Calls Tryz.prog 148 #[msv m a n c] w fun e w' =>e=.returned (.int .i64 (msE m))∧Below w.heap.size w w' :=by
  have hw0:Below w.heap.size w (w.alloc (.cells (aM m a n c) 99)):=bA1;have HA:=hide (zc8 a n c m.ws _ (h.below hw0).at_ h.len h.max);have L:=hide h.len;have hm:=h.max;unfold maxLen at hm;unfold msv;clear h;have hB:Hid (∀b,msB m=b→b=false→msE m=3):=fun b h1 h2=>msE_bad (h1.trans h2)
  unfold msB at hB;cases g1:inB m.k 1 7
  {
  have HE:=hide (hB.out _ rfl (by rw [g1];rfl));go_enter Tryz.func148,Tryz.ntmps148
  go_wp2_with (go_at_call 176;refine(zbb _ _ _ _).mono ?_;rintro e w' ⟨rfl,rfl⟩)
  go_ret;exact⟨zap HE.out.symm,hw0⟩
  }
  cases g2:inB m.u 0 3
  {
  have HE:=hide (hB.out _ rfl (by rw [g1,g2];rfl));go_enter Tryz.func148,Tryz.ntmps148
  go_wp2_with (go_at_call 176;refine(zbb _ _ _ _).mono ?_;rintro e w' ⟨rfl,rfl⟩)
  go_ret;exact⟨zap HE.out.symm,hw0⟩
  }
  cases g3:inB m.n 1 8
  {
  have HE:=hide (hB.out _ rfl (by rw [g1,g2,g3];rfl));go_enter Tryz.func148,Tryz.ntmps148
  go_wp2_with (go_at_call 176;refine(zbb _ _ _ _).mono ?_;rintro e w' ⟨rfl,rfl⟩)
  go_ret;exact⟨zap HE.out.symm,hw0⟩
  }
  cases g4:inB m.at' 0 40
  {
  have HE:=hide (hB.out _ rfl (by rw [g1,g2,g3,g4];rfl));go_enter Tryz.func148,Tryz.ntmps148
  go_wp2_with (go_at_call 176;refine(zbb _ _ _ _).mono ?_;rintro e w' ⟨rfl,rfl⟩)
  go_ret;exact⟨zap HE.out.symm,hw0⟩
  }
  cases g5:inB m.im 0 60
  {
  have HE:=hide (hB.out _ rfl (by rw [g1,g2,g3,g4,g5];rfl));go_enter Tryz.func148,Tryz.ntmps148
  go_wp2_with (go_at_call 176;refine(zbb _ _ _ _).mono ?_;rintro e w' ⟨rfl,rfl⟩)
  go_ret;exact⟨zap HE.out.symm,hw0⟩
  }
  by_cases g6:n≤8
  rotate_left
  {
  have HE:=hide (hB.out _ rfl (by rw [g1,g2,g3,g4,g5,L.out];simp [g6]));have d6:decide ((n:Int)≤8)=false:=by simp;omega
  clear g6;go_enter Tryz.func148,Tryz.ntmps148
  go_wp2_with (go_at_call 176;refine(zbb _ _ _ _).mono ?_;rintro e w' ⟨rfl,rfl⟩)
  go_ret;exact⟨zap HE.out.symm,hw0⟩
  }
  have d6:decide ((n:Int)≤8)=true:=by simp;omega
  cases g7:okL m.ws
  {
  have HE:=hide (hB.out _ rfl (by rw [g1,g2,g3,g4,g5,g7];simp));rw [g7] at HA;clear g6;go_enter Tryz.func148,Tryz.ntmps148
  go_wp2_with (first| (go_at_call 176;refine(zbb _ _ _ _).mono ?_;rintro e w' ⟨rfl,rfl⟩)| (go_at_call 217;refine(zae HA).mono ?_;rintro e w' ⟨rfl,rfl⟩))
  go_ret;exact⟨zap HE.out.symm,hw0⟩
  }
  {
  have HE:=hide (msE_ok (m:=m) (by unfold msB;rw [g1,g2,g3,g4,g5,g7,L.out];simp [g6]));rw [g7] at HA;clear g6;go_enter Tryz.func148,Tryz.ntmps148
  go_wp2_with (first| (go_at_call 176;refine(zbb _ _ _ _).mono ?_;rintro e w' ⟨rfl,rfl⟩)| (go_at_call 217;refine(zae HA).mono ?_;rintro e w' ⟨rfl,rfl⟩))
  go_ret;exact⟨zap HE.out.symm,hw0⟩
  }
theorem zqu (a:Option Addr) (n c:Nat) (r:List Int) (k:Int) (l:Nat) (w:World) (h:zag w a r) (hn:r.length=n) (hm:n≤maxLen) (h0:0<l) (hl:l≤10):
    Calls Tryz.prog 177 #[.slice a n c,.int .i64 k,.int .i64 l] w fun e w' =>e=.returned (.bool (isR r k l))∧w' =w:=by
  unfold maxLen at hm
  by_cases h1:n=l
  rotate_left
  {
  have HE:=hide (show isR r k l=false by unfold isR;rw [hn];simp [h1]);have d1: ((n:Int)==(l:Int))=false:=by simp;omega
  clear hn h1;go_enter Tryz.func177,Tryz.ntmps177;go_wp2;go_ret;exact⟨zan HE.out.symm,rfl⟩
  }
  {
  have d1: ((n:Int)==(l:Int))=true:=by simp;omega
  rcases h with e| ⟨b,off,rfl,hc⟩
  { rw [e] at hn;simp at hn;omega }
  have e0:=hc 0 (by omega);rw [Nat.add_zero] at e0;have hlt: (0:Int)< (n:Int):=by omega
  by_cases h2:r.getD 0 0=k
  {
  have HE:=hide (show isR r k l=true by unfold isR;rw [hn];simp only [h1,h2];simp);have d2: (r.getD 0 0==k)=true:=by simpa using h2
  clear hn h1 hc h2;generalize r.getD 0 0=r0 at *;go_enter Tryz.func177,Tryz.ntmps177;go_wp2;go_ret;exact⟨zan HE.out.symm,rfl⟩
  }
  {
  have HE:=hide (show isR r k l=false by unfold isR;simp only [decide_eq_false h2,Bool.and_false]);have d2: (r.getD 0 0==k)=false:=by simpa using h2
  clear hn h1 hc h2;generalize r.getD 0 0=r0 at *;go_enter Tryz.func177,Tryz.ntmps177;go_wp2;go_ret;exact⟨zan HE.out.symm,rfl⟩
  }
  }
theorem zcs (s:Us) (w:World) (h0:0≤s.slot) (h1:s.slot≤1):Calls Tryz.prog 311 #[.agg #[.int .i64 s.slot,.int .i64 s.by',.int .i64 s.rdy]] w fun e w' =>e=.returned (.int .i64 (oth s))∧Below w.heap.size w w' :=by
  have hw0:Below w.heap.size w (w.alloc (.cells #[.int .i64 s.slot,.int .i64 s.by',.int .i64 s.rdy] 84)):=bA1;go_enter Tryz.func311,Tryz.ntmps311;go_wp2;go_ret;exact⟨rfl,hw0⟩
def OneM (w:World) (m:Ms) (e:Ending) (w' :World):Prop:=(∃b,e=.returned (.slice (some ⟨b,0,none⟩) 1 1)∧za9 w' (some ⟨b,0,none⟩) [m]∧w.heap.size≤b)∧Below w.heap.size w w'
theorem zdy (m:Ms) (a:Option Addr) (n c:Nat) (w:World):Calls Tryz.prog 313 #[msv m a n c] w (OneM w (doneM m)):=by
  have hw0:Below w.heap.size w (w.alloc (.cells (aM m a n c) 99)):=bA1;unfold msv;go_enter Tryz.func313,Tryz.ntmps313;go_wp2;go_ret;exact⟨⟨_,rfl,zg1 (m:=doneM m) rfl (zau _ _ _),by simp⟩,hw0.alloc hw0.size _⟩
end
end Go.Proofs.YthmekfcgdfckaaaGreatDoor
