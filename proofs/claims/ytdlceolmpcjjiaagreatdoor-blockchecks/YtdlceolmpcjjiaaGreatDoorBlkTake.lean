import Derived.Test.YtdlceolmpcjjiaaGreatDoorBlkTwoGroup
import Derived.Test.YtdlceolmpcjjiaaGreatDoorPtMerge
import Derived.Test.YtdlceolmpcjjiaaGreatDoorHeadPutGroup
import Derived.Test.YtdlceolmpcjjiaaGreatDoorJoinMath
import Derived.Test.YtdlceolmpcjjiaaGreatDoorRowsDef
set_option maxRecDepth 100000
namespace Go.Proofs.YtdlceolmpcjjiaaGreatDoor
open Go.RowKit Go.Maps bF bT ow
structure qM (w:World) (mb nb base:Nat) (S:List Rw) (sv:List UInt8->Value):Prop where
 map:∃ D,w.ownsMap Tryz.prog 9 zi mb nb D/\Maps.size D=S.length/\(∀ k,Maps.has D (.string k)=kT S k)/\∀ r,r∈S->∀ z,D.atKey (.string r.1) z = .held (sv r.1)
 row:∀ r,r∈S->w.ownsRow base 71 2 (sv r.1) r.2.length (aG r.2)
 apart:∀ r q,r∈S->q∈S->r.1≠q.1->(sv r.1).ownBlock=none\/(sv r.1).ownBlock≠(sv q.1).ownBlock
 up:Up S
theorem qM.D7 {w:World} {mb nb base:Nat} {S:List Rw} {sv:List UInt8->Value} (h:qM w mb nb base S sv) {b:Nat} {cs:Array Value} {t:TypeId} {f:Nat×Nat} (hx:w.heap[b]? = some (.cells cs t f)):b≠mb:=fun e=>by
 obtain⟨D,⟨es,clock,hm,_⟩,_⟩:=h.map;subst e;rw[hm] at hx;cases hx
theorem qM.below {w w':World} {mb nb base:Nat} {S:List Rw} {sv:List UInt8->Value} (h:qM w mb nb base S sv) (hb:Below w.heap.size w w'):qM w' mb nb base S sv:=by
 obtain⟨D,h1,h2⟩:=h.map;exact⟨⟨D,qh h1 (hb.block _ h1.lt),h2⟩,fun r hr=>dB (h.row r hr) fun g hg=>hb.block g (bE (h.row r hr) hg).2.1,h.apart,h.up⟩
theorem Qb (w:World):(zeroValue 48).run Tryz.prog w = .ok (.slice none 0 0) w:=by kernel_rfl
def Found (S:List Rw) (sv:List UInt8->Value) (k:List UInt8) (v:Value) (old:List (Int×Nat)):Prop:=(kT S k=false/\v = .slice none 0 0/\old = [])\/∃ r,r∈S/\r.1=k/\v=sv k/\old=r.2
theorem qM.look {w:World} {mb nb base:Nat} {S:List Rw} {sv:List UInt8->Value} (h:qM w mb nb base S sv) (s:ByteArray) (hs:s.size<=1000) :
  ∃ v old,Found S sv s.data.toList v old/\∀ z:World,z.heap[mb]? = w.heap[mb]? -> (Instr.lookup 143 (.map (some mb)) (.string s) false).run Tryz.prog z = .ok v z:=by
 obtain⟨D,h1,_,h3,h4⟩:=h.map;cases hk:kT S s.data.toList with
 | false=>
  refine⟨.slice none 0 0,[],.inl ⟨hk,rfl,rfl⟩,fun z hz=>?_⟩;obtain⟨v,ps,hrun,hv⟩:=(qh h1 hz).lookup I7 Tryz.underlying143 (Qb z) (zd:=.held (.slice none 0 0)) (zp:=[]) rfl (Hf s hs);simp only[zi,Option.some.injEq,Prod.mk.injEq] at hv;have hn:Maps.has D (.string s.data.toList)=false:=by rw[h3,hk]
  rw[atKey_of_not_has hn] at hv;have:=hv.1;injection this with this;subst this;exact hrun
 | true=>
  obtain⟨r,hr,qV⟩:=mP.1 hk;refine⟨sv s.data.toList,r.2,.inr ⟨r,hr,qV,rfl,rfl⟩,fun z hz=>?_⟩;obtain⟨v,ps,hrun,hv⟩:=(qh h1 hz).lookup I7 Tryz.underlying143 (Qb z) (zd:=.held (.slice none 0 0)) (zp:=[]) rfl (Hf s hs);simp only[zi,Option.some.injEq,Prod.mk.injEq] at hv;have:=h4 r hr (.held (.slice none 0 0));rw[qV] at this;rw[this] at hv;have:=hv.1;injection this with this;subst this;exact hrun
theorem Found.own {w:World} {mb nb base:Nat} {S:List Rw} {sv:List UInt8->Value} (h:qM w mb nb base S sv) {k:List UInt8} {v:Value} {old:List (Int×Nat)} (hf:Found S sv k v old):w.ownsRow base 71 2 v old.length (aG old):=by
 rcases hf with⟨_,rfl,rfl⟩|⟨r,hr,rfl,rfl,rfl⟩
 ·exact⟨rfl,.inl ⟨rfl,rfl⟩⟩
 ·exact h.row r hr
theorem qM.put {w w1:World} {mb nb base:Nat} {S:List Rw} {sv:List UInt8->Value} (h:qM w mb nb base S sv) (hmb:base<=mb) (hbs:base<=w.heap.size) (s:ByteArray) (hs:s.size<=1000) (hnb:nb<1000) (l:List (Int×Nat)) {v0 v':Value} {old:List (Int×Nat)} {g:Nat}
  (hv0:Found S sv s.data.toList v0 old) (hv':v'.ownBlock=some g) (hown:w1.ownsRow base 71 2 v' (old++l).length (aG (old++l))) (hgr:w.grownBy w1 v0.ownBlock) (hat:v0.ownBlock=some g\/g=w.heap.size) :
  ∃ w2,(Instr.mapUpdate 143 (.map (some mb)) (.string s) v').run Tryz.prog w1 = .ok () w2/\qM w2 mb (nb+1) base (jK S (s.data.toList,l)) (fun x=>if x=s.data.toList then v' else sv x)/\Below base w w2/\w1.heap.size<=w2.heap.size/\∀ b,b<w.heap.size->some b≠v0.ownBlock->b≠mb->w2.heap[b]? = w.heap[b]?:=by
 obtain⟨D,h1,h2,h3,h4⟩:=h.map;have Nh:∀ q,v0.ownBlock=some q->base<=q/\q<w.heap.size/\∃ cur,w.heap[q]? = some (.cells cur 71 (0,0)):=fun q hq=>bE (hv0.own h) hq
 have hmv:some mb≠v0.ownBlock:=fun e=>by
  obtain⟨_,_,cur,hc⟩:=Nh mb e.symm;exact h.D7 hc rfl
 have hm1:w1.ownsMap Tryz.prog 9 zi mb nb D:=qh h1 (hgr.block mb h1.lt hmv);obtain⟨w2,hrun,hown2,hg2⟩:=hm1.update I7 Tryz.underlying143 (show nb<maxLen by unfold maxLen;omega) (Hf s hs) (val:=v') (d:=.held v') (ps:=[]) rfl;have hkey:WideAt.IsKeyLit (.string s.data.toList):=I7.key (Hf s hs);have hne:∀ k j:List UInt8,k≠j->(Lit.string k) ≠ .string j:=fun k j e h=>by injection h with h;exact e h
 have hgl:g≠mb:=fun e=>by
  obtain⟨_,_,cur,hc⟩:=bE hown hv';obtain⟨es,clock,hm,_⟩:=hm1;rw[e,hm] at hc;cases hc
 have hsz:w.heap.size<=w1.heap.size:=hgr.size;have hold:∀ b,b<w.heap.size->some b≠v0.ownBlock->b≠mb->w2.heap[b]? = w.heap[b]?:=fun b hb hn hm=>(hg2.block b (by omega) (fun e=>hm (by injection e))).trans (hgr.block b hb hn)
 have hov:w2.ownsRow base 71 2 v' (old++l).length (aG (old++l)):=dB hown fun q hq=>by
  obtain⟨_,hlt,_⟩:=bE hown hq;rw[hv'] at hq;injection hq with hq;subst hq;exact hg2.block g hlt (fun e=>hgl (by injection e))
 have hap:∀ r,r∈S->r.1≠s.data.toList->∀ q,(sv r.1).ownBlock=some q->some q≠v0.ownBlock:=fun r hr qV q hq e=>by
  rcases hv0 with⟨_,rfl,_⟩|⟨p,hp,hpk,rfl,_⟩
  ·cases e
  ·rcases h.apart r p hr hp (by rw[hpk];exact qV) with h0 | h0
   ·rw[h0] at hq;cases hq
   ·exact h0 (by rw[hq,hpk];exact e)
 refine⟨w2,hrun,⟨⟨_,hown2,?_,fun k=>?_,fun r hr z=>?_⟩,fun r hr=>?_,fun r q hr hq hrq=>?_,vo h.up⟩,⟨hg2.os.trans hgr.os,hg2.tape.trans hgr.tape,hg2.output.trans hgr.output,Nat.le_trans hsz hg2.size,fun b hb=>hold b (by omega) (fun e=>by have:=(Nh b e.symm).1;omega) (by omega)⟩,hg2.size,hold⟩
 ·rw[size_put (h1.tidy I7),BL h.up,h2,h3]
 ·rw[WS h.up];by_cases e:s.data.toList=k
  ·subst e;rw[has_put_same h1.isMap hkey];simp
  ·rw[has_put_other (hne _ _ (fun x=>e x.symm)),h3];simp[e]
 ·rcases (jZ h.up).1 hr with⟨hr',qV⟩|⟨p,hp,hpk,rfl⟩|⟨_,rfl⟩
  ·rw[if_neg qV,atKey_put_other (hne _ _ qV),h4 r hr']
  ·dsimp only at hpk ⊢;rw[if_pos hpk,hpk];exact atKey_put_same h1.isMap hkey _ _
  ·rw[if_pos rfl];exact atKey_put_same h1.isMap hkey _ _
 ·rcases (jZ h.up).1 hr with⟨hr',qV⟩|⟨p,hp,hpk,rfl⟩|⟨hf,rfl⟩
  ·rw[if_neg qV];refine dB (h.row r hr') fun q hq=>?_
   obtain⟨_,hlt,cur,hc⟩:=bE (h.row r hr') hq;exact hold q hlt (hap r hr' qV q hq) (h.D7 hc)
  ·dsimp only at hpk ⊢;rw[if_pos hpk];rcases hv0 with⟨hf,_,_⟩|⟨p',hp',hpk',_,rfl⟩
   ·rw[mP.2 ⟨p,hp,hpk⟩] at hf;cases hf
   ·obtain rfl:=Ym h.up hp hp' (hpk.trans hpk'.symm);exact hov
  ·rw[if_pos rfl];rcases hv0 with⟨_,_,rfl⟩|⟨p',hp',hpk',_,_⟩
   ·exact hov
   ·have hf':kT S s.data.toList=false:=hf;rw[mP.2 ⟨p',hp',hpk'⟩] at hf';cases hf'
 ·have hnew:∀ r,r∈S->r.1≠s.data.toList->(sv r.1).ownBlock=none\/(sv r.1).ownBlock≠some g:=fun r hr qV=>by
   cases hb:(sv r.1).ownBlock with
   | none=>exact .inl rfl
   | some q=>
    refine .inr fun e=>?_
    injection e with e;subst e;rcases hat with hat | hat
    ·exact hap r hr qV q hb hat.symm
    ·have:=(bE (h.row r hr) hb).2.1;omega
  have key:∀ r,r∈jK S (s.data.toList,l)->r.1≠s.data.toList->r∈S:=fun r hr qV=>by
   rcases (jZ h.up).1 hr with⟨hr',_⟩|⟨p,_,hpk,rfl⟩|⟨_,rfl⟩
   ·exact hr'
   ·exact absurd hpk qV
   ·exact absurd rfl qV
  by_cases e1:r.1=s.data.toList
  ·have e2:q.1≠s.data.toList:=fun e=>hrq (e1.trans e.symm)
   rw[if_pos e1,if_neg e2,hv'];rcases hnew q (key q hq e2) e2 with h0 | h0
   ·exact .inr (by rw[h0];exact fun e=>by cases e)
   ·exact .inr (fun e=>h0 e.symm)
  ·rw[if_neg e1];by_cases e2:q.1=s.data.toList
   ·rw[if_pos e2,hv'];exact hnew r (key r hr e1) e1
   ·rw[if_neg e2];exact h.apart r q (key r hr e1) (key q hq e2) hrq
end Go.Proofs.YtdlceolmpcjjiaaGreatDoor
set_option maxRecDepth 1000000
set_option maxHeartbeats 1000000
namespace Go.Proofs.YtdlceolmpcjjiaaGreatDoor
open Go.RowKit Go.Maps bF bT ow
section
variable {P:Program} {ops:Array Oper} {Q:Exit->Act->World->Prop} {md:Region.Mode} {S:World->Prop} {st:Nat}
theorem gT {i:Nat} {oi:Oper} {d:Option Tmp} {v:Value} {n:Nat} {up:Array Bool} {a:Act} {w:World} (hi:ops[i]? = some oi) (hd:oi.dst=d) (hs:Region.noSelect ops=true) (hf:Region.free md ops up i=true) (hr:(Region.ready md ops up).contains i=true) (hw:waitsFor md ops st i=true) (hne:(st==i)=false) (hst:up.getD st true=false)
  (hQ:∀ c a w,Q (.panic c) (a.put d v) w->Q (.panic c) a w) (hy:YieldsIf P ops S oi v a) (hS:S w) (h:wpAnyS P md ops Q S st n (up.setIfInBounds i true) (a.put d v) w):wpAnyS P md ops Q S st (n+1) up a w:=by
 subst hd;exact gW hi hs hf hr hw hne hst hQ hy hS h
theorem bC {i:Nat} {oi:Oper} {d:Option Tmp} {v:Value} {n:Nat} {up:Array Bool} {a:Act} {w:World} (hi:ops[i]? = some oi) (hd:oi.dst=d) (hs:Region.noSelect ops=true) (hf:Region.free md ops up i=true) (hr:(Region.ready md ops up).contains i=true) (hne:(st==i)=false)
  (hQ:∀ c a w,Q (.panic c) (a.put d v) w->Q (.panic c) a w) (hy:YieldsIf P ops (fun _=>True) oi v a) (hS:up.getD st true=false->S w) (h:wpAnyS P md ops Q S st n (up.setIfInBounds i true) (a.put d v) w):wpAnyS P md ops Q S st (n+1) up a w:=by
 subst hd;exact bW hi hs hf hr hne hQ hy hS h
end
structure oO (wE wr:World) (mb pb nb:Nat) (S:List Rw) (sv:List UInt8->Value):Prop where
 pm:qM wr mb nb wE.heap.size S sv
 var:wr.heap[pb]? = some (.cells #[.map (some mb)] 143 (0,0))
 aM:Below wE.heap.size wE wr
 len:∀ r,r∈S->r.2.length<=120*nb/\r.1.length<=1000
theorem oO.below {wE wr z:World} {mb pb nb:Nat} {S:List Rw} {sv:List UInt8->Value} (h:oO wE wr mb pb nb S sv) (hb:Below wr.heap.size wr z):oO wE z mb pb nb S sv:=
 ⟨h.pm.below hb,(hb.block _ (aH h.var)).trans h.var,h.aM.trans (hb.mono h.aM.size),h.len⟩
theorem Ki (wE w:World) (la:Option Addr) (c:Nat) (F:List Rw) (hP:pG wE la F) (hF:∀ r,r∈F->r.2 ≠ []/\r.2.length<=120/\r.1.length<=1000) (hn:F.length<=60) (mb pb nb:Nat) (S:List Rw) (sv:List UInt8->Value) (h:oO wE w mb pb nb S sv) (hmb:wE.heap.size<=mb) (hpb:wE.heap.size<=pb) (hnb:nb<=100) :
  Calls Tryz.prog 84 #[.slice la F.length c,.pointer (some ⟨pb,0,none⟩)] w fun e w'=>e = .returned (.tuple #[])/\∃ sv',oO wE w' mb pb (nb+F.length) (fT S F) sv':=by
 have HP:Hid (pG wE la F):=hP;have HF:=(show Hid _ from hF);have UH:=(show Hid _ from hmb);have HPB:=(show Hid _ from hpb);have H0:Hid (oO wE w mb pb (nb+0) (fT S (F.take 0)) sv):=h;obtain⟨n,hnn⟩:∃ n,F.length=n:=⟨_,rfl⟩;rw[hnn] at hn ⊢;have HN:=(show Hid _ from hnn);clear hP hF h hnn hmb hpb;go_enter Tryz.func84,Tryz.ntmps84;go_wp2_with fail;go_loopw [4,7] (fun _ i wr=>∃ (k:Nat) (sw:List UInt8->Value),k<=n/\i = .int .i64 k/\oO wE wr mb pb (nb+k) (fT S (F.take k)) sw) (fun _ i _=>n-(intOf i).toNat);case atStart=>exact⟨0,_,Nat.zero_le _,rfl,H0.out⟩
 case round=>
  obtain⟨k,sw,hk,rfl,ht⟩:=hrel;clear H0;by_cases hlt:k<n
  ·have hkl:k<F.length:=by have:=HN.out;omega
   have hst:F.take (k+1)=F.take k ++ [F[k]]:=List.take_succ_eq_append_getElem hkl;obtain⟨hf1,hf2,hf3⟩:=HF.out F[k] (List.getElem_mem hkl);have hPw:pG wr la F:=HP.out.below ht.aM;rcases hPw with hx | ⟨b,o,rfl,hc⟩
   ·rw[hx] at hkl;simp at hkl
   ·obtain⟨c0,A,C,c1,hPk⟩:=hc k hkl;rcases hPk with hx | ⟨ab,ao,rfl,hcp⟩
    ·exact absurd hx hf1
    obtain⟨nm,hnm⟩:∃ nm:ByteArray,nm=⟨F[k].1.toArray⟩:=⟨_,rfl⟩;have c0':wr.cell? ⟨b,o+k*2,none⟩=some (.string nm):=by rw[hnm];exact c0
    have hnd:nm.data.toList=F[k].1:=by rw[hnm]
    obtain⟨m,hm⟩:∃ m,F[k].2.length=m:=⟨_,rfl⟩;rw[hm] at c1 hf2;have hm0:0<m:=by
     rw[<-hm];cases he:F[k].2 with
     | nil=>exact absurd he hf1
     | cons=>simp
    obtain⟨W0,hW0⟩:∃ W0,W0=wr.alloc (.cells #[.string nm,.slice (some ⟨ab,ao,none⟩) m C] 61):=⟨_,rfl⟩;have hbW:Below wr.heap.size wr W0:=by rw[hW0];exact (Below.refl _ _).alloc (Nat.le_refl _) _
    have Dx:W0.heap.size=wr.heap.size+1:=by rw[hW0];simp
    have hkW:W0.heap[wr.heap.size]? = some (.cells #[.string nm,.slice (some ⟨ab,ao,none⟩) m C] 61 (0,0)):=by rw[hW0];exact heap_alloc_new _ _
    have htW:=ht.below hbW;have Ar:oO wE W0.drew mb pb (nb+k) (fT S (F.take k)) sw:=htW.below ((Below.refl _ _).drew);have hns:nm.size<=1000:=by
     have e:nm.size=F[k].1.length:=by rw[hnm];simp[ByteArray.size]
     omega
    obtain⟨v0,old,Kj,Io⟩:=Ar.pm.look nm hns;have hown0:W0.drew.ownsRow wE.heap.size 71 2 v0 old.length (aG old):=Kj.own Ar.pm;have hol:old.length<=20000:=by
     rcases Kj with⟨_,_,rfl⟩|⟨r,hr,_,_,rfl⟩
     ·exact Nat.zero_le _
     ·have:=(Ar.len r hr).1;omega
    have hvb:∀ q cs t f,W0.drew.heap[q]? = some (.cells cs t f)->t≠71->some q≠v0.ownBlock:=fun q cs t f hq ht' e=>by
     obtain⟨_,_,cur,hc⟩:=bE hown0 e.symm;rw[hq] at hc;injection hc with hc;injection hc with _ hc;exact ht' hc
    have Kk:W0.drew.heap[pb]? = some (.cells #[.map (some mb)] 143 (0,0)):=Ar.var;have JF:W0.drew.heap[wr.heap.size]? = some (.cells #[.string nm,.slice (some ⟨ab,ao,none⟩) m C] 61 (0,0)):=hkW;have hS1:∀ z:World,W0.drew.grownBy z v0.ownBlock->z.cell? ⟨pb,0,none⟩=some (.map (some mb))/\z.cell? ⟨wr.heap.size,0,none⟩=some (.string nm)/\z.cell? ⟨wr.heap.size,1,none⟩=some (.slice (some ⟨ab,ao,none⟩) m C)/\(Instr.lookup 143 (.map (some mb)) (.string nm) false).run Tryz.prog z = .ok v0 z:=fun z hz=>by
     have e1:=(hz.block pb (aH Kk) (hvb pb _ _ _ Kk (by decide))).trans Kk;have e2:=(hz.block wr.heap.size (aH JF) (hvb wr.heap.size _ _ _ JF (by decide))).trans JF;obtain⟨D,hD,_⟩:=Ar.pm.map;refine⟨ak e1 0,ak e2 0,ak e2 1,Io z (hz.block mb hD.lt fun e=>?_)⟩;obtain⟨_,_,cur,hc⟩:=bE hown0 e.symm;exact Ar.pm.D7 hc rfl
    have HSD:Hid ((fun z:World=>z.cell? ⟨pb,0,none⟩=some (.map (some mb))/\z.cell? ⟨wr.heap.size,0,none⟩=some (.string nm)/\z.cell? ⟨wr.heap.size,1,none⟩=some (.slice (some ⟨ab,ao,none⟩) m C)/\(Instr.lookup 143 (.map (some mb)) (.string nm) false).run Tryz.prog z = .ok v0 z) W0.drew):=hS1 W0.drew ⟨rfl,rfl,rfl,Nat.le_refl _,fun _ _ _=>rfl⟩;have agt:Hid (∀ z:World,W0.drew.grownBy z v0.ownBlock->z.cell? ⟨pb,0,none⟩=some (.map (some mb))/\z.cell? ⟨wr.heap.size,0,none⟩=some (.string nm)/\z.cell? ⟨wr.heap.size,1,none⟩=some (.slice (some ⟨ab,ao,none⟩) m C)/\(Instr.lookup 143 (.map (some mb)) (.string nm) false).run Tryz.prog z = .ok v0 z):=hS1;have hbE:Below wE.heap.size wE W0.drew:=Ar.aM;have zX:Hid (wE.heap.size<=W0.drew.heap.size):=hbE.size;have fB:Hid (∀ (w2:World) (sx:List UInt8->Value),qM w2 mb (nb+k+1) wE.heap.size (jK (fT S (F.take k)) (nm.data.toList,F[k].2)) sx->Below wE.heap.size W0.drew w2->(∀ q,q<W0.drew.heap.size->some q≠v0.ownBlock->q≠mb->w2.heap[q]? = W0.drew.heap[q]?)->oO wE w2 mb pb (nb+(k+1)) (fT S (F.take (k+1))) sx):=fun w2 sx g1 g2 g3=>by
     have e:jK (fT S (F.take k)) (nm.data.toList,F[k].2)=fT S (F.take (k+1)):=by rw[hst,RX,hnd]
     refine⟨by rw[<-e];exact g1,(g3 pb (aH Kk) (hvb pb _ _ _ Kk (by decide)) (Ar.pm.D7 Kk)).trans Kk,hbE.trans g2,fun r hr=>?_⟩;rw[<-e] at hr;rcases (jZ Ar.pm.up).1 hr with⟨hr',_⟩|⟨q,hq,hqk,rfl⟩|⟨_,rfl⟩
     ·have:=Ar.len r hr';omega
     ·have:=Ar.len q hq;refine⟨?_,this.2⟩;show (q.2++F[k].2).length<=_;rw[List.length_append,hm];omega
     ·refine⟨?_,?_⟩
      ·show F[k].2.length<=_;rw[hm];omega
      ·show nm.data.toList.length<=_;rw[hnd];exact hf3
    have HPM:Hid (qM W0.drew mb (nb+k) wE.heap.size (fT S (F.take k)) sw):=Ar.pm;have HFD:=(show Hid _ from Kj);have HOW:Hid (W0.drew.ownsRow wE.heap.size 71 2 v0 old.length (aG old)):=hown0;have sF:Hid ((aG F[k].2).length=m*2):=by rw[iB,hm];exact rfl
    have nI:Hid (∀ (j:Nat) u,(aG F[k].2)[j]? = some u->W0.drew.cell? ((⟨ab,ao,none⟩:Addr).add j)=some u):=rP fun j hj=>by
     obtain⟨e1,e2⟩:=hcp j hj;have hl:=World.block_lt_of_cell? wr ⟨ab,_,none⟩ e1;exact⟨(hbW.cell (p:=⟨ab,ao+j*2,none⟩) hl).trans e1,(hbW.cell (p:=⟨ab,ao+j*2+1,none⟩) hl).trans e2⟩
    have HM:=(show Hid _ from hm);have q9:=(show Hid _ from hns);have HN1:Hid (nb+k<1000):=by show _<_;omega
    have M9:Hid (0<m):=hm0;have UJ:Hid (old.length+m<=maxLen):=by show _<=_;unfold maxLen;omega
    have Hw:Hid ((old.length+m)*16<=140737488355328):=by show _<=_;omega
    have LB:(k:Int)<(n:Int):=by omega
    have hk0:(0:Int)<=(k:Int):=by omega
    obtain⟨i0,hi,hz0,hz1,hz2⟩:=info_parts Tryz.infoPt;clear hc hst hf1 hf3 c0 hcp hnm hnd hbW Dx hkW htW Ar Kj Io hown0 hvb Kk JF hS1 hbE hns hm ht hm0 hf2 hol;go_wp2_with fail;rw[<-hW0];clear hW0;refine mM (S:=fun z=>z.cell? ⟨pb,0,none⟩=some (.map (some mb))/\z.cell? ⟨wr.heap.size,0,none⟩=some (.string nm)/\z.cell? ⟨wr.heap.size,1,none⟩=some (.slice (some ⟨ab,ao,none⟩) m C)/\(Instr.lookup 143 (.map (some mb)) (.string nm) false).run Tryz.prog z = .ok v0 z) (by kernel_rfl) 10 HSD.out (fun hHeld=>?_);refine gT (i:=0) (d:=some 11) (v:=.map (some mb)) rfl rfl (by kernel_rfl) (by kernel_rfl) (by kernel_rfl) (by kernel_rfl) (by kernel_rfl) (by kernel_rfl) (fun _ _ _ h=>h) (Or.inl ⟨by rfl,?_⟩) hHeld ?_
    ·intro w hSw;obtain⟨wo,wu,wB,Kl⟩:=hSw;go_simp
    simp only[Act.put,List.setIfInBounds_toArray,List.set_cons_succ,List.set_cons_zero];refine bC (i:=1) (d:=some 12) (v:=.pointer (some ⟨wr.heap.size,0,none⟩)) rfl rfl (by kernel_rfl) (by kernel_rfl) (by kernel_rfl) (by kernel_rfl) (fun _ _ _ h=>h) (Or.inl ⟨by rfl,?_⟩) (fun _=>hHeld) ?_
    ·intro w _;go_simp
    simp only[Act.put,List.setIfInBounds_toArray,List.set_cons_succ,List.set_cons_zero];refine gT (i:=2) (d:=some 13) (v:=.string nm) rfl rfl (by kernel_rfl) (by kernel_rfl) (by kernel_rfl) (by kernel_rfl) (by kernel_rfl) (by kernel_rfl) (fun _ _ _ h=>h) (Or.inl ⟨by rfl,?_⟩) hHeld ?_
    ·intro w hSw;obtain⟨wo,wu,wB,Kl⟩:=hSw;go_simp
    simp only[Act.put,List.setIfInBounds_toArray,List.set_cons_succ,List.set_cons_zero];refine gT (i:=3) (d:=some 14) (v:=.map (some mb)) rfl rfl (by kernel_rfl) (by kernel_rfl) (by kernel_rfl) (by kernel_rfl) (by kernel_rfl) (by kernel_rfl) (fun _ _ _ h=>h) (Or.inl ⟨by rfl,?_⟩) hHeld ?_
    ·intro w hSw;obtain⟨wo,wu,wB,Kl⟩:=hSw;go_simp
    simp only[Act.put,List.setIfInBounds_toArray,List.set_cons_succ,List.set_cons_zero];refine bC (i:=4) (d:=some 15) (v:=.pointer (some ⟨wr.heap.size,0,none⟩)) rfl rfl (by kernel_rfl) (by kernel_rfl) (by kernel_rfl) (by kernel_rfl) (fun _ _ _ h=>h) (Or.inl ⟨by rfl,?_⟩) (fun _=>hHeld) ?_
    ·intro w _;go_simp
    simp only[Act.put,List.setIfInBounds_toArray,List.set_cons_succ,List.set_cons_zero];refine gT (i:=5) (d:=some 16) (v:=.string nm) rfl rfl (by kernel_rfl) (by kernel_rfl) (by kernel_rfl) (by kernel_rfl) (by kernel_rfl) (by kernel_rfl) (fun _ _ _ h=>h) (Or.inl ⟨by rfl,?_⟩) hHeld ?_
    ·intro w hSw;obtain⟨wo,wu,wB,Kl⟩:=hSw;go_simp
    simp only[Act.put,List.setIfInBounds_toArray,List.set_cons_succ,List.set_cons_zero];refine gT (i:=6) (d:=some 17) (v:=v0) rfl rfl (by kernel_rfl) (by kernel_rfl) (by kernel_rfl) (by kernel_rfl) (by kernel_rfl) (by kernel_rfl) (fun _ _ _ h=>h) (Or.inl ⟨by rfl,?_⟩) hHeld ?_
    ·intro w hSw;obtain⟨wo,wu,wB,Kl⟩:=hSw;go_simp
    simp only[Act.put,List.setIfInBounds_toArray,List.set_cons_succ,List.set_cons_zero];refine bC (i:=7) (d:=some 18) (v:=.pointer (some ⟨wr.heap.size,1,none⟩)) rfl rfl (by kernel_rfl) (by kernel_rfl) (by kernel_rfl) (by kernel_rfl) (fun _ _ _ h=>h) (Or.inl ⟨by rfl,?_⟩) (fun _=>hHeld) ?_
    ·intro w _;go_simp
    simp only[Act.put,List.setIfInBounds_toArray,List.set_cons_succ,List.set_cons_zero];refine gT (i:=8) (d:=some 19) (v:=.slice (some ⟨ab,ao,none⟩) m C) rfl rfl (by kernel_rfl) (by kernel_rfl) (by kernel_rfl) (by kernel_rfl) (by kernel_rfl) (by kernel_rfl) (fun _ _ _ h=>h) (Or.inl ⟨by rfl,?_⟩) hHeld ?_
    ·intro w hSw;obtain⟨wo,wu,wB,Kl⟩:=hSw;go_simp
    simp only[Act.put,List.setIfInBounds_toArray,List.set_cons_succ,List.set_cons_zero];refine aI (rs:=[9]) (by kernel_rfl) (by simp) ?_;refine aC.cons rfl (fun K hK=>?_) aC.nil;refine step_append_lies _ (by rfl) _ _ 48 (by rfl) wE.heap.size 71 i0 (.agg #[.int .i64 0,.int .u64 0]) 2 16 Tryz.underlying48 hi hz0 hz1 hz2 rfl (by decide) v0 old.length (aG old) (by rfl) HOW.out ⟨ab,ao,none⟩ m C (aG F[k].2) (by rfl) sF.out nI.out (pW _) M9.out UJ.out Hw.out zX.out _ rfl ?_;intro g1 jc w1 hown1 WX acy hlt1;obtain⟨w2,hrun,hpm,hbel,hsz2,hold⟩:=HPM.out.put UH.out zX.out nm q9.out HN1.out F[k].2 (v':=.slice (some ⟨g1,0,none⟩) (old.length+m) jc) (g:=g1) HFD.out rfl (by rw[List.length_append,HM.out,yc];exact hown1) WX acy;have Ut:=(show Hid _ from agt.out w1 WX);have agu:=(show Hid _ from hpm);have agv:=(show Hid _ from hbel);have Dq:=(show Hid _ from hold);clear hown1 WX acy hlt1 hpm hbel hold hsz2;refine hK.out _ _ Ut.out ?_;clear hK K;try simp only[Act.put]
    refine aI (rs:=[10]) (by kernel_rfl) (by simp) ?_;refine aC.last rfl (by kernel_rfl) (fun K hK=>?_) aC.nil;go_simp
    refine hK.out _ _ ?_;clear hK K;refine fQ (by kernel_rfl) ?_ _;clear hrun;go_wp2;go_roundw;case rel=>exact⟨k+1,_,by omega,by go_num,fB.out w2 _ agu.out agv.out Dq.out⟩
    case measure=>simp[intOf]<;>omega
  ·obtain rfl:k=n:=by omega
   have zu:F.take k=F:=by rw[<-HN.out];exact List.take_length
   rw[zu] at ht;have HT:=(show Hid _ from ht);clear ht;go_wp2;exact bodyPost_end (v:=.tuple #[]) (by simp[results,Tryz.results84,go_sem]) rfl ⟨rfl,_,HT.out⟩
end Go.Proofs.YtdlceolmpcjjiaaGreatDoor
