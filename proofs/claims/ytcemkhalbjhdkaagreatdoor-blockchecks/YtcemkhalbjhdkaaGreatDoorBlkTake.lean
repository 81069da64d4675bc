import Derived.Test.YtcemkhalbjhdkaaGreatDoorBlkTwoGroup
import Derived.Test.YtcemkhalbjhdkaaGreatDoorPtMerge
import Derived.Test.YtcemkhalbjhdkaaGreatDoorHeadPutGroup
import Derived.Test.YtcemkhalbjhdkaaGreatDoorJoinMath
import Derived.Test.YtcemkhalbjhdkaaGreatDoorRowsDef
import Derived.Test.YtcemkhalbjhdkaaGreatDoorRegStore
namespace Go.Proofs.YtcemkhalbjhdkaaGreatDoor
section
variable {P:Program} {ops:Array Oper} {Q:Exit->Act->World->Prop} {md:Region.Mode} {S:World->Prop} {st:Nat}
theorem NN {i:Nat} {oi:Oper} {d:Option Tmp} {v:Value} {n:Nat} {up:Array Bool} {a:Act} {w:World} (hi:ops[i]? = some oi) (hd:oi.dst=d) (hs:Region.noSelect ops=true) (hf:Region.free md ops up i=true) (hr:(Region.ready md ops up).contains i=true) (hw:waitsFor md ops st i=true) (hne:(st==i)=false) (hst:up.getD st true=false)
  (hQ:∀ c a w,Q (.panic c) (a.put d v) w->Q (.panic c) a w) (hy:YieldsIf P ops S oi v a) (hS:S w) (h:wpAnyS P md ops Q S st n (up.setIfInBounds i true) (a.put d v) w):wpAnyS P md ops Q S st (n+1) up a w:=by
 subst hd;exact gU hi hs hf hr hw hne hst hQ hy hS h
theorem KY {i:Nat} {oi:Oper} {d:Option Tmp} {v:Value} {n:Nat} {up:Array Bool} {a:Act} {w:World} (hi:ops[i]? = some oi) (hd:oi.dst=d) (hs:Region.noSelect ops=true) (hf:Region.free md ops up i=true) (hr:(Region.ready md ops up).contains i=true) (hne:(st==i)=false)
  (hQ:∀ c a w,Q (.panic c) (a.put d v) w->Q (.panic c) a w) (hy:YieldsIf P ops (fun _=>True) oi v a) (hS:up.getD st true=false->S w) (h:wpAnyS P md ops Q S st n (up.setIfInBounds i true) (a.put d v) w):wpAnyS P md ops Q S st (n+1) up a w:=by
 subst hd;exact bV hi hs hf hr hne hQ hy hS h
theorem Cr (i d:Nat) (v:Value) {oi:Oper} {n:Nat} {up:Array Bool} {a:Act} {w:World} (hS:S w) (hi:ops[i]? = some oi) (hd:oi.dst=some d) (hy:∀ w,S w->(execOp a.eval oi).run P w = .ok (.value v) w) (h:wpAnyS P md ops Q S st n (up.setIfInBounds i true) (a.put (some d) v) w)
  (hg:Region.wanted oi (yielded ops a.tmps)=true:=by rfl) (hs:Region.noSelect ops=true:=by kernel_rfl) (hf:Region.free md ops up i=true:=by kernel_rfl) (hr:(Region.ready md ops up).contains i=true:=by kernel_rfl) (hw:waitsFor md ops st i=true:=by kernel_rfl) (hne:(st==i)=false:=by kernel_rfl) (hst:up.getD st true=false:=by kernel_rfl) (hQ:∀ c a w,Q (.panic c) (a.put (some d) v) w->Q (.panic c) a w:=by exact fun _ _ _ h=>h):wpAnyS P md ops Q S st (n+1) up a w:=
 NN hi hd hs hf hr hw hne hst hQ (.inl ⟨hg,hy⟩) hS h
theorem lJ (i d:Nat) (v:Value) {oi:Oper} {n:Nat} {up:Array Bool} {a:Act} {w:World} (hS:S w) (hi:ops[i]? = some oi) (hd:oi.dst=some d) (hy:∀ w,True->(execOp a.eval oi).run P w = .ok (.value v) w) (h:wpAnyS P md ops Q S st n (up.setIfInBounds i true) (a.put (some d) v) w)
  (hg:Region.wanted oi (yielded ops a.tmps)=true:=by rfl) (hs:Region.noSelect ops=true:=by kernel_rfl) (hf:Region.free md ops up i=true:=by kernel_rfl) (hr:(Region.ready md ops up).contains i=true:=by kernel_rfl) (hne:(st==i)=false:=by kernel_rfl) (hQ:∀ c a w,Q (.panic c) (a.put (some d) v) w->Q (.panic c) a w:=by exact fun _ _ _ h=>h):wpAnyS P md ops Q S st (n+1) up a w:=
 KY hi hd hs hf hr hne hQ (.inl ⟨hg,hy⟩) (fun _=>hS) h
theorem Au (i:Nat) {o:Oper} {n:Nat} {up:Array Bool} {a:Act} {w:World} (ho:ops[i]? = some o) (h:∀ K:Act->World->Prop,Shut (∀ b z,S z->wpAnyS P md ops Q S st n (up.setIfInBounds i true) b z->K b z)->if Region.wanted o (yielded ops a.tmps)=true then Oper.wp P o a w K Q else K (a.put o.dst undef) w) (hr:Region.ready md ops up = [i]:=by kernel_rfl):wpAnyS P md ops Q S st (n+1) up a w:=
 bH hr (by simp) (.cons ho h .nil)
theorem wu (i:Nat) {o:Oper} {n:Nat} {up:Array Bool} {a:Act} {w:World} (ho:ops[i]? = some o) (h:∀ K:Act->World->Prop,Shut (∀ b z,wpAnyS P md ops Q S st n (up.setIfInBounds i true) b z->K b z)->if Region.wanted o (yielded ops a.tmps)=true then Oper.wp P o a w K Q else K (a.put o.dst undef) w) (hst:(i==st||up.getD st true)=true:=by kernel_rfl) (hr:Region.ready md ops up = [i]:=by kernel_rfl):wpAnyS P md ops Q S st (n+1) up a w:=
 bH hr (by simp) (.last ho hst h .nil)
end
end Go.Proofs.YtcemkhalbjhdkaaGreatDoor
set_option maxRecDepth 100000
namespace Go.Proofs.YtcemkhalbjhdkaaGreatDoor
open Go.RowKit Go.Maps bD bS ou
structure qL (w:World) (mb nb base:Nat) (S:List Rw) (sv:List UInt8->Value):Prop where
 map:∃ D,w.ownsMap Tryz.prog 9 zk mb nb D/\Maps.size D=S.length/\(∀ k,Maps.has D (.string k)=kR S k)/\∀ r,r∈S->∀ z,D.atKey (.string r.1) z = .held (sv r.1)
 row:∀ r,r∈S->w.ownsRow base 67 2 (sv r.1) r.2.length (aF r.2)
 apart:∀ r q,r∈S->q∈S->r.1≠q.1->(sv r.1).ownBlock=none\/(sv r.1).ownBlock≠(sv q.1).ownBlock
 up:Up S
theorem qL.Ea {w:World} {mb nb base:Nat} {S:List Rw} {sv:List UInt8->Value} (h:qL w mb nb base S sv) {b:Nat} {cs:Array Value} {t:TypeId} {f:Nat×Nat} (hx:w.heap[b]? = some (.cells cs t f)):b≠mb:=fun e=>by
 obtain⟨D,⟨es,clock,hm,_⟩,_⟩:=h.map;subst e;rw[hm] at hx;cases hx
theorem qL.below {w w':World} {mb nb base:Nat} {S:List Rw} {sv:List UInt8->Value} (h:qL w mb nb base S sv) (hb:Below w.heap.size w w'):qL w' mb nb base S sv:=by
 obtain⟨D,h1,h2⟩:=h.map;exact⟨⟨D,qg h1 (hb.block _ h1.lt),h2⟩,fun r hr=>dA (h.row r hr) fun g hg=>hb.block g (bC (h.row r hr) hg).2.1,h.apart,h.up⟩
theorem Qi (w:World):(zeroValue 48).run Tryz.prog w = .ok (.slice none 0 0) w:=by kernel_rfl
def Found (S:List Rw) (sv:List UInt8->Value) (k:List UInt8) (v:Value) (old:List (Int×Nat)):Prop:=(kR S k=false/\v = .slice none 0 0/\old = [])\/∃ r,r∈S/\r.1=k/\v=sv k/\old=r.2
theorem qL.look {w:World} {mb nb base:Nat} {S:List Rw} {sv:List UInt8->Value} (h:qL w mb nb base S sv) (s:ByteArray) (hs:s.size<=1000) :
  ∃ v old,Found S sv s.data.toList v old/\∀ z:World,z.heap[mb]? = w.heap[mb]? -> (Instr.lookup 141 (.map (some mb)) (.string s) false).run Tryz.prog z = .ok v z:=by
 obtain⟨D,h1,_,h3,h4⟩:=h.map;cases hk:kR S s.data.toList with
 | false=>
  refine⟨.slice none 0 0,[],.inl ⟨hk,rfl,rfl⟩,fun z hz=>?_⟩;obtain⟨v,ps,hrun,hv⟩:=(qg h1 hz).lookup Ja Tryz.underlying141 (Qi z) (zd:=.held (.slice none 0 0)) (zp:=[]) rfl (Ho s hs);simp only[zk,Option.some.injEq,Prod.mk.injEq] at hv;have hn:Maps.has D (.string s.data.toList)=false:=by rw[h3,hk]
  rw[atKey_of_not_has hn] at hv;have:=hv.1;injection this with this;subst this;exact hrun
 | true=>
  obtain⟨r,hr,qU⟩:=mO.1 hk;refine⟨sv s.data.toList,r.2,.inr ⟨r,hr,qU,rfl,rfl⟩,fun z hz=>?_⟩;obtain⟨v,ps,hrun,hv⟩:=(qg h1 hz).lookup Ja Tryz.underlying141 (Qi z) (zd:=.held (.slice none 0 0)) (zp:=[]) rfl (Ho s hs);simp only[zk,Option.some.injEq,Prod.mk.injEq] at hv;have:=h4 r hr (.held (.slice none 0 0));rw[qU] at this;rw[this] at hv;have:=hv.1;injection this with this;subst this;exact hrun
theorem Found.own {w:World} {mb nb base:Nat} {S:List Rw} {sv:List UInt8->Value} (h:qL w mb nb base S sv) {k:List UInt8} {v:Value} {old:List (Int×Nat)} (hf:Found S sv k v old):w.ownsRow base 67 2 v old.length (aF old):=by
 rcases hf with⟨_,rfl,rfl⟩|⟨r,hr,rfl,rfl,rfl⟩
 ·exact⟨rfl,.inl ⟨rfl,rfl⟩⟩
 ·exact h.row r hr
theorem qL.put {w w1:World} {mb nb base:Nat} {S:List Rw} {sv:List UInt8->Value} (h:qL w mb nb base S sv) (hmb:base<=mb) (hbs:base<=w.heap.size) (s:ByteArray) (hs:s.size<=1000) (hnb:nb<1000) (l:List (Int×Nat)) {v0 v':Value} {old:List (Int×Nat)} {g:Nat}
  (hv0:Found S sv s.data.toList v0 old) (hv':v'.ownBlock=some g) (hown:w1.ownsRow base 67 2 v' (old++l).length (aF (old++l))) (hgr:w.grownBy w1 v0.ownBlock) (hat:v0.ownBlock=some g\/g=w.heap.size) :
  ∃ w2,(Instr.mapUpdate 141 (.map (some mb)) (.string s) v').run Tryz.prog w1 = .ok () w2/\qL w2 mb (nb+1) base (jI S (s.data.toList,l)) (fun x=>if x=s.data.toList then v' else sv x)/\Below base w w2/\w1.heap.size<=w2.heap.size/\∀ b,b<w.heap.size->some b≠v0.ownBlock->b≠mb->w2.heap[b]? = w.heap[b]?:=by
 obtain⟨D,h1,h2,h3,h4⟩:=h.map;have Np:∀ q,v0.ownBlock=some q->base<=q/\q<w.heap.size/\∃ cur,w.heap[q]? = some (.cells cur 67 (0,0)):=fun q hq=>bC (hv0.own h) hq
 have hmv:some mb≠v0.ownBlock:=fun e=>by
  obtain⟨_,_,cur,hc⟩:=Np mb e.symm;exact h.Ea hc rfl
 have hm1:w1.ownsMap Tryz.prog 9 zk mb nb D:=qg h1 (hgr.block mb h1.lt hmv);obtain⟨w2,hrun,hown2,hg2⟩:=hm1.update Ja Tryz.underlying141 (show nb<maxLen by unfold maxLen;omega) (Ho s hs) (val:=v') (d:=.held v') (ps:=[]) rfl;have hkey:WideAt.IsKeyLit (.string s.data.toList):=Ja.key (Ho s hs);have hne:∀ k j:List UInt8,k≠j->(Lit.string k) ≠ .string j:=fun k j e h=>by injection h with h;exact e h
 have hgl:g≠mb:=fun e=>by
  obtain⟨_,_,cur,hc⟩:=bC hown hv';obtain⟨es,clock,hm,_⟩:=hm1;rw[e,hm] at hc;cases hc
 have hsz:w.heap.size<=w1.heap.size:=hgr.size;have hold:∀ b,b<w.heap.size->some b≠v0.ownBlock->b≠mb->w2.heap[b]? = w.heap[b]?:=fun b hb hn hm=>(hg2.block b (by omega) (fun e=>hm (by injection e))).trans (hgr.block b hb hn)
 have hov:w2.ownsRow base 67 2 v' (old++l).length (aF (old++l)):=dA hown fun q hq=>by
  obtain⟨_,hlt,_⟩:=bC hown hq;rw[hv'] at hq;injection hq with hq;subst hq;exact hg2.block g hlt (fun e=>hgl (by injection e))
 have hap:∀ r,r∈S->r.1≠s.data.toList->∀ q,(sv r.1).ownBlock=some q->some q≠v0.ownBlock:=fun r hr qU q hq e=>by
  rcases hv0 with⟨_,rfl,_⟩|⟨p,hp,hpk,rfl,_⟩
  ·cases e
  ·rcases h.apart r p hr hp (by rw[hpk];exact qU) with h0 | h0
   ·rw[h0] at hq;cases hq
   ·exact h0 (by rw[hq,hpk];exact e)
 refine⟨w2,hrun,⟨⟨_,hown2,?_,fun k=>?_,fun r hr z=>?_⟩,fun r hr=>?_,fun r q hr hq hrq=>?_,vo h.up⟩,⟨hg2.os.trans hgr.os,hg2.tape.trans hgr.tape,hg2.output.trans hgr.output,Nat.le_trans hsz hg2.size,fun b hb=>hold b (by omega) (fun e=>by have:=(Np b e.symm).1;omega) (by omega)⟩,hg2.size,hold⟩
 ·rw[size_put (h1.tidy Ja),BP h.up,h2,h3]
 ·rw[Xd h.up];by_cases e:s.data.toList=k
  ·subst e;rw[has_put_same h1.isMap hkey];simp
  ·rw[has_put_other (hne _ _ (fun x=>e x.symm)),h3];simp[e]
 ·rcases (jX h.up).1 hr with⟨hr',qU⟩|⟨p,hp,hpk,rfl⟩|⟨_,rfl⟩
  ·rw[if_neg qU,atKey_put_other (hne _ _ qU),h4 r hr']
  ·dsimp only at hpk ⊢;rw[if_pos hpk,hpk];exact atKey_put_same h1.isMap hkey _ _
  ·rw[if_pos rfl];exact atKey_put_same h1.isMap hkey _ _
 ·rcases (jX h.up).1 hr with⟨hr',qU⟩|⟨p,hp,hpk,rfl⟩|⟨hf,rfl⟩
  ·rw[if_neg qU];refine dA (h.row r hr') fun q hq=>?_
   obtain⟨_,hlt,cur,hc⟩:=bC (h.row r hr') hq;exact hold q hlt (hap r hr' qU q hq) (h.Ea hc)
  ·dsimp only at hpk ⊢;rw[if_pos hpk];rcases hv0 with⟨hf,_,_⟩|⟨p',hp',hpk',_,rfl⟩
   ·rw[mO.2 ⟨p,hp,hpk⟩] at hf;cases hf
   ·obtain rfl:=Yz h.up hp hp' (hpk.trans hpk'.symm);exact hov
  ·rw[if_pos rfl];rcases hv0 with⟨_,_,rfl⟩|⟨p',hp',hpk',_,_⟩
   ·exact hov
   ·have hf':kR S s.data.toList=false:=hf;rw[mO.2 ⟨p',hp',hpk'⟩] at hf';cases hf'
 ·have hnew:∀ r,r∈S->r.1≠s.data.toList->(sv r.1).ownBlock=none\/(sv r.1).ownBlock≠some g:=fun r hr qU=>by
   cases hb:(sv r.1).ownBlock with
   | none=>exact .inl rfl
   | some q=>
    refine .inr fun e=>?_
    injection e with e;subst e;rcases hat with hat | hat
    ·exact hap r hr qU q hb hat.symm
    ·have:=(bC (h.row r hr) hb).2.1;omega
  have key:∀ r,r∈jI S (s.data.toList,l)->r.1≠s.data.toList->r∈S:=fun r hr qU=>by
   rcases (jX h.up).1 hr with⟨hr',_⟩|⟨p,_,hpk,rfl⟩|⟨_,rfl⟩
   ·exact hr'
   ·exact absurd hpk qU
   ·exact absurd rfl qU
  by_cases e1:r.1=s.data.toList
  ·have e2:q.1≠s.data.toList:=fun e=>hrq (e1.trans e.symm)
   rw[if_pos e1,if_neg e2,hv'];rcases hnew q (key q hq e2) e2 with h0 | h0
   ·exact .inr (by rw[h0];exact fun e=>by cases e)
   ·exact .inr (fun e=>h0 e.symm)
  ·rw[if_neg e1];by_cases e2:q.1=s.data.toList
   ·rw[if_pos e2,hv'];exact hnew r (key r hr e1) e1
   ·rw[if_neg e2];exact h.apart r q (key r hr e1) (key q hq e2) hrq
end Go.Proofs.YtcemkhalbjhdkaaGreatDoor
set_option maxRecDepth 1000000
set_option maxHeartbeats 1000000
namespace Go.Proofs.YtcemkhalbjhdkaaGreatDoor
open Go.RowKit Go.Maps bD bS ou
structure oO (wE wr:World) (mb pb nb:Nat) (S:List Rw) (sv:List UInt8->Value):Prop where
 pm:qL wr mb nb wE.heap.size S sv
 var:wr.heap[pb]? = some (.cells #[.map (some mb)] 141 (0,0))
 aL:Below wE.heap.size wE wr
 len:∀ r,r∈S->r.2.length<=120*nb/\r.1.length<=1000
theorem oO.below {wE wr z:World} {mb pb nb:Nat} {S:List Rw} {sv:List UInt8->Value} (h:oO wE wr mb pb nb S sv) (hb:Below wr.heap.size wr z):oO wE z mb pb nb S sv:=
 ⟨h.pm.below hb,(hb.block _ (aG h.var)).trans h.var,h.aL.trans (hb.mono h.aL.size),h.len⟩
theorem Kn (wE w:World) (la:Option Addr) (c:Nat) (F:List Rw) (hP:pF wE la F) (hF:∀ r,r∈F->r.2 ≠ []/\r.2.length<=120/\r.1.length<=1000) (hn:F.length<=60) (mb pb nb:Nat) (S:List Rw) (sv:List UInt8->Value) (h:oO wE w mb pb nb S sv) (hmb:wE.heap.size<=mb) (hpb:wE.heap.size<=pb) (hnb:nb<=100) :
  Calls Tryz.prog 82 #[.slice la F.length c,.pointer (some ⟨pb,0,none⟩)] w fun e w'=>e = .returned (.tuple #[])/\∃ sv',oO wE w' mb pb (nb+F.length) (fQ S F) sv':=by
 have HP:Hid (pF wE la F):=hP;have HF:=(show Hid _ from hF);have UR:=(show Hid _ from hmb);have HPB:=(show Hid _ from hpb);have H0:Hid (oO wE w mb pb (nb+0) (fQ S (F.take 0)) sv):=h;obtain⟨n,hnn⟩:∃ n,F.length=n:=⟨_,rfl⟩;rw[hnn] at hn ⊢;have HN:=(show Hid _ from hnn);clear hP hF h hnn hmb hpb;go_enter Tryz.func82,Tryz.ntmps82;go_wp2_with fail;go_loopw [4,7] (fun _ i wr=>∃ (k:Nat) (sw:List UInt8->Value),k<=n/\i = .int .i64 k/\oO wE wr mb pb (nb+k) (fQ S (F.take k)) sw) (fun _ i _=>n-(intOf i).toNat);case atStart=>exact⟨0,_,Nat.zero_le _,rfl,H0.out⟩
 case round=>
  obtain⟨k,sw,hk,rfl,ht⟩:=hrel;clear H0;by_cases hlt:k<n
  ·have hkl:k<F.length:=by have:=HN.out;omega
   have hst:F.take (k+1)=F.take k ++ [F[k]]:=List.take_succ_eq_append_getElem hkl;obtain⟨hf1,hf2,hf3⟩:=HF.out F[k] (List.getElem_mem hkl);have hPw:pF wr la F:=HP.out.below ht.aL;rcases hPw with hx | ⟨b,o,rfl,hc⟩
   ·rw[hx] at hkl;simp at hkl
   ·obtain⟨c0,A,C,c1,hPk⟩:=hc k hkl;rcases hPk with hx | ⟨ab,ao,rfl,hcp⟩
    ·exact absurd hx hf1
    obtain⟨nm,hnm⟩:∃ nm:ByteArray,nm=⟨F[k].1.toArray⟩:=⟨_,rfl⟩;have c0':wr.cell? ⟨b,o+k*2,none⟩=some (.string nm):=by rw[hnm];exact c0
    have hnd:nm.data.toList=F[k].1:=by rw[hnm]
    obtain⟨m,hm⟩:∃ m,F[k].2.length=m:=⟨_,rfl⟩;rw[hm] at c1 hf2;have hm0:0<m:=by
     rw[<-hm];cases he:F[k].2 with
     | nil=>exact absurd he hf1
     | cons=>simp
    obtain⟨W0,hW0⟩:∃ W0,W0=wr.alloc (.cells #[.string nm,.slice (some ⟨ab,ao,none⟩) m C] 69):=⟨_,rfl⟩;have hbW:Below wr.heap.size wr W0:=by rw[hW0];exact (Below.refl _ _).alloc (Nat.le_refl _) _
    have DC:W0.heap.size=wr.heap.size+1:=by rw[hW0];simp
    have hkW:W0.heap[wr.heap.size]? = some (.cells #[.string nm,.slice (some ⟨ab,ao,none⟩) m C] 69 (0,0)):=by rw[hW0];exact heap_alloc_new _ _
    have htW:=ht.below hbW;have Av:oO wE W0.drew mb pb (nb+k) (fQ S (F.take k)) sw:=htW.below ((Below.refl _ _).drew);have hns:nm.size<=1000:=by
     have e:nm.size=F[k].1.length:=by rw[hnm];simp[ByteArray.size]
     omega
    obtain⟨v0,old,Ko,Ir⟩:=Av.pm.look nm hns;have hown0:W0.drew.ownsRow wE.heap.size 67 2 v0 old.length (aF old):=Ko.own Av.pm;have hol:old.length<=20000:=by
     rcases Ko with⟨_,_,rfl⟩|⟨r,hr,_,_,rfl⟩
     ·exact Nat.zero_le _
     ·have:=(Av.len r hr).1;omega
    have hvb:∀ q cs t f,W0.drew.heap[q]? = some (.cells cs t f)->t≠67->some q≠v0.ownBlock:=fun q cs t f hq ht' e=>by
     obtain⟨_,_,cur,hc⟩:=bC hown0 e.symm;rw[hq] at hc;injection hc with hc;injection hc with _ hc;exact ht' hc
    have Kq:W0.drew.heap[pb]? = some (.cells #[.map (some mb)] 141 (0,0)):=Av.var;have JI:W0.drew.heap[wr.heap.size]? = some (.cells #[.string nm,.slice (some ⟨ab,ao,none⟩) m C] 69 (0,0)):=hkW;have hS1:∀ z:World,W0.drew.grownBy z v0.ownBlock->z.cell? ⟨pb,0,none⟩=some (.map (some mb))/\z.cell? ⟨wr.heap.size,0,none⟩=some (.string nm)/\z.cell? ⟨wr.heap.size,1,none⟩=some (.slice (some ⟨ab,ao,none⟩) m C)/\(Instr.lookup 141 (.map (some mb)) (.string nm) false).run Tryz.prog z = .ok v0 z:=fun z hz=>by
     have e1:=(hz.block pb (aG Kq) (hvb pb _ _ _ Kq (by decide))).trans Kq;have e2:=(hz.block wr.heap.size (aG JI) (hvb wr.heap.size _ _ _ JI (by decide))).trans JI;obtain⟨D,hD,_⟩:=Av.pm.map;refine⟨ak e1 0,ak e2 0,ak e2 1,Ir z (hz.block mb hD.lt fun e=>?_)⟩;obtain⟨_,_,cur,hc⟩:=bC hown0 e.symm;exact Av.pm.Ea hc rfl
    have HSD:Hid ((fun z:World=>z.cell? ⟨pb,0,none⟩=some (.map (some mb))/\z.cell? ⟨wr.heap.size,0,none⟩=some (.string nm)/\z.cell? ⟨wr.heap.size,1,none⟩=some (.slice (some ⟨ab,ao,none⟩) m C)/\(Instr.lookup 141 (.map (some mb)) (.string nm) false).run Tryz.prog z = .ok v0 z) W0.drew):=hS1 W0.drew ⟨rfl,rfl,rfl,Nat.le_refl _,fun _ _ _=>rfl⟩;have agz:Hid (∀ z:World,W0.drew.grownBy z v0.ownBlock->z.cell? ⟨pb,0,none⟩=some (.map (some mb))/\z.cell? ⟨wr.heap.size,0,none⟩=some (.string nm)/\z.cell? ⟨wr.heap.size,1,none⟩=some (.slice (some ⟨ab,ao,none⟩) m C)/\(Instr.lookup 141 (.map (some mb)) (.string nm) false).run Tryz.prog z = .ok v0 z):=hS1;have hbE:Below wE.heap.size wE W0.drew:=Av.aL;have zY:Hid (wE.heap.size<=W0.drew.heap.size):=hbE.size;have fu:Hid (∀ (w2:World) (sx:List UInt8->Value),qL w2 mb (nb+k+1) wE.heap.size (jI (fQ S (F.take k)) (nm.data.toList,F[k].2)) sx->Below wE.heap.size W0.drew w2->(∀ q,q<W0.drew.heap.size->some q≠v0.ownBlock->q≠mb->w2.heap[q]? = W0.drew.heap[q]?)->oO wE w2 mb pb (nb+(k+1)) (fQ S (F.take (k+1))) sx):=fun w2 sx g1 g2 g3=>by
     have e:jI (fQ S (F.take k)) (nm.data.toList,F[k].2)=fQ S (F.take (k+1)):=by rw[hst,Si,hnd]
     refine⟨by rw[<-e];exact g1,(g3 pb (aG Kq) (hvb pb _ _ _ Kq (by decide)) (Av.pm.Ea Kq)).trans Kq,hbE.trans g2,fun r hr=>?_⟩;rw[<-e] at hr;rcases (jX Av.pm.up).1 hr with⟨hr',_⟩|⟨q,hq,hqk,rfl⟩|⟨_,rfl⟩
     ·have:=Av.len r hr';omega
     ·have:=Av.len q hq;refine⟨?_,this.2⟩;show (q.2++F[k].2).length<=_;rw[List.length_append,hm];omega
     ·refine⟨?_,?_⟩
      ·show F[k].2.length<=_;rw[hm];omega
      ·show nm.data.toList.length<=_;rw[hnd];exact hf3
    have HPM:Hid (qL W0.drew mb (nb+k) wE.heap.size (fQ S (F.take k)) sw):=Av.pm;have HFD:=(show Hid _ from Ko);have HOW:Hid (W0.drew.ownsRow wE.heap.size 67 2 v0 old.length (aF old)):=hown0;have sD:Hid ((aF F[k].2).length=m*2):=by rw[iy,hm];exact rfl
    have nH:Hid (∀ (j:Nat) u,(aF F[k].2)[j]? = some u->W0.drew.cell? ((⟨ab,ao,none⟩:Addr).add j)=some u):=rO fun j hj=>by
     obtain⟨e1,e2⟩:=hcp j hj;have hl:=World.block_lt_of_cell? wr ⟨ab,_,none⟩ e1;exact⟨(hbW.cell (p:=⟨ab,ao+j*2,none⟩) hl).trans e1,(hbW.cell (p:=⟨ab,ao+j*2+1,none⟩) hl).trans e2⟩
    have HM:=(show Hid _ from hm);have qZ:=(show Hid _ from hns);have HN1:Hid (nb+k<1000):=by show _<_;omega
    have Nh:Hid (0<m):=hm0;have UU:Hid (old.length+m<=maxLen):=by show _<=_;unfold maxLen;omega
    have H7:Hid ((old.length+m)*16<=140737488355328):=by show _<=_;omega
    have LK:(k:Int)<(n:Int):=by omega
    have hk0:(0:Int)<=(k:Int):=by omega
    obtain⟨i0,hi,hz0,hz1,hz2⟩:=info_parts Tryz.infoPt;clear hc hst hf1 hf3 c0 hcp hnm hnd hbW DC hkW htW Av Ko Ir hown0 hvb Kq JI hS1 hbE hns hm ht hm0 hf2 hol;go_wp2_with fail;rw[<-hW0];clear hW0;refine mJ (S:=fun z=>z.cell? ⟨pb,0,none⟩=some (.map (some mb))/\z.cell? ⟨wr.heap.size,0,none⟩=some (.string nm)/\z.cell? ⟨wr.heap.size,1,none⟩=some (.slice (some ⟨ab,ao,none⟩) m C)/\(Instr.lookup 141 (.map (some mb)) (.string nm) false).run Tryz.prog z = .ok v0 z) (by kernel_rfl) 10 HSD.out (fun hHeld=>?_);refine Cr 0 11 (.map (some mb)) hHeld rfl rfl ?_ ?_
    ·intro w hSw;obtain⟨wh,wm,wo,Kr⟩:=hSw;go_simp
    simp only[Act.put,List.setIfInBounds_toArray,List.set_cons_succ,List.set_cons_zero];refine lJ 1 12 (.pointer (some ⟨wr.heap.size,0,none⟩)) hHeld rfl rfl ?_ ?_
    ·intro w _;go_simp
    simp only[Act.put,List.setIfInBounds_toArray,List.set_cons_succ,List.set_cons_zero];refine Cr 2 13 (.string nm) hHeld rfl rfl ?_ ?_
    ·intro w hSw;obtain⟨wh,wm,wo,Kr⟩:=hSw;go_simp
    simp only[Act.put,List.setIfInBounds_toArray,List.set_cons_succ,List.set_cons_zero];refine Cr 3 14 (.map (some mb)) hHeld rfl rfl ?_ ?_
    ·intro w hSw;obtain⟨wh,wm,wo,Kr⟩:=hSw;go_simp
    simp only[Act.put,List.setIfInBounds_toArray,List.set_cons_succ,List.set_cons_zero];refine lJ 4 15 (.pointer (some ⟨wr.heap.size,0,none⟩)) hHeld rfl rfl ?_ ?_
    ·intro w _;go_simp
    simp only[Act.put,List.setIfInBounds_toArray,List.set_cons_succ,List.set_cons_zero];refine Cr 5 16 (.string nm) hHeld rfl rfl ?_ ?_
    ·intro w hSw;obtain⟨wh,wm,wo,Kr⟩:=hSw;go_simp
    simp only[Act.put,List.setIfInBounds_toArray,List.set_cons_succ,List.set_cons_zero];refine Cr 6 17 v0 hHeld rfl rfl ?_ ?_
    ·intro w hSw;obtain⟨wh,wm,wo,Kr⟩:=hSw;go_simp
    simp only[Act.put,List.setIfInBounds_toArray,List.set_cons_succ,List.set_cons_zero];refine lJ 7 18 (.pointer (some ⟨wr.heap.size,1,none⟩)) hHeld rfl rfl ?_ ?_
    ·intro w _;go_simp
    simp only[Act.put,List.setIfInBounds_toArray,List.set_cons_succ,List.set_cons_zero];refine Cr 8 19 (.slice (some ⟨ab,ao,none⟩) m C) hHeld rfl rfl ?_ ?_
    ·intro w hSw;obtain⟨wh,wm,wo,Kr⟩:=hSw;go_simp
    simp only[Act.put,List.setIfInBounds_toArray,List.set_cons_succ,List.set_cons_zero];refine Au 9 rfl fun K hK=>?_
    refine step_append_lies _ (by rfl) _ _ 48 (by rfl) wE.heap.size 67 i0 (.agg #[.int .i64 0,.int .u64 0]) 2 16 Tryz.underlying48 hi hz0 hz1 hz2 rfl (by decide) v0 old.length (aF old) (by rfl) HOW.out ⟨ab,ao,none⟩ m C (aF F[k].2) (by rfl) sD.out nH.out (pV _) Nh.out UU.out H7.out zY.out _ rfl ?_;intro g1 iY w1 hown1 Xe acD hlt1;obtain⟨w2,hrun,hpm,hbel,hsz2,hold⟩:=HPM.out.put UR.out zY.out nm qZ.out HN1.out F[k].2 (v':=.slice (some ⟨g1,0,none⟩) (old.length+m) iY) (g:=g1) HFD.out rfl (by rw[List.length_append,HM.out,yc];exact hown1) Xe acD;have Uz:=(show Hid _ from agz.out w1 Xe);have agA:=(show Hid _ from hpm);have agB:=(show Hid _ from hbel);have Du:=(show Hid _ from hold);clear hown1 Xe acD hlt1 hpm hbel hold hsz2;refine hK.out _ _ Uz.out ?_;clear hK K;try simp only[Act.put]
    refine wu 10 rfl fun K hK=>?_
    go_simp
    refine hK.out _ _ ?_;clear hK K;refine fP (by kernel_rfl) ?_ _;clear hrun;go_wp2;go_roundw;case rel=>exact⟨k+1,_,by omega,by go_num,fu.out w2 _ agA.out agB.out Du.out⟩
    case measure=>simp[intOf]<;>omega
  ·obtain rfl:k=n:=by omega
   have zw:F.take k=F:=by rw[<-HN.out];exact List.take_length
   rw[zw] at ht;have HT:=(show Hid _ from ht);clear ht;go_wp2;exact bodyPost_end (v:=.tuple #[]) (by simp[results,Tryz.results82,go_sem]) rfl ⟨rfl,_,HT.out⟩
end Go.Proofs.YtcemkhalbjhdkaaGreatDoor
