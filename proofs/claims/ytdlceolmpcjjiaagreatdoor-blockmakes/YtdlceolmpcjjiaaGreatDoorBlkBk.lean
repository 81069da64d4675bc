import Derived.Test.YtdlceolmpcjjiaaGreatDoorBlkHeadGroup
import Derived.Test.YtdlceolmpcjjiaaGreatDoorMdAtGroup
import Derived.Test.YtdlceolmpcjjiaaGreatDoorHeadAtGroup
set_option maxRecDepth 100000
namespace Go.Proofs.YtdlceolmpcjjiaaGreatDoor
open Go.RowKit bg jf
theorem Im {s:ByteArray} (h:isWord s=true):∀ c,c∈s.data.toList->c≠32/\c≠10:=fun c hc=>by
 unfold isWord at h;rw[Bool.and_eq_true,List.all_eq_true] at h;have:=h.1 c hc;constructor
 ·rintro rfl;revert this;decide
 ·rintro rfl;revert this;decide
theorem RY (s:List UInt8) (h:gP s=0):∀ c,c∈s->c≠32/\c≠10:=by
 unfold gP at h;cases hs:scan s [] [] [] false with
 | none=>rw[hs] at h;cases h
 | some out=>
  rw[hs] at h;dsimp only at h;obtain⟨h1,h6,_,hall⟩:=(Km _ _ _).2 h;have hb:=Qq s out hs;intro c hc;rw[<-hb] at hc;rcases G5 out c hc with rfl | rfl | ⟨p,hp,hcp⟩
  ·decide
  ·decide
  ·obtain⟨i,hi,rfl⟩:=List.mem_iff_getElem.1 hp;have hk:=hall i hi;simp only[jm,Bool.and_eq_true] at hk;have e1:(nameAt out i).data.toList=out[i].1:=by simp[nameAt,hi,txt]
   have e2:(dI out i).data.toList=out[i].2:=by simp[dI,hi,txt]
   have hn:isWord (nameAt out i)=true:=by
    have:=hk.1.1;simp only[isName,Bool.and_eq_true] at this;exact this.1
   rcases hcp with hcp | hcp
   ·exact Im hn c (by rw[e1];exact hcp)
   ·exact Im hk.1.2 c (by rw[e2];exact hcp)
def u7 (l:List UInt8):List UInt8:=l.flatMap fun c=>[jY (c.toNat / 16),jY (c.toNat % 16)]
theorem RZ (l:List UInt8):eZ l l.length=u7 l:=by unfold eZ u7;rw[List.take_length]
theorem R3 (c:UInt8) (r:List UInt8):u7 (c::r)=jY (c.toNat / 16)::jY (c.toNat % 16)::u7 r:=by simp[u7]
theorem Io:∀ d:Fin 16,sV (jY d.val)=(d.val:Int):=by decide
theorem Ip:∀ l:List UInt8,eO (u7 l)=some l
 | []=>rfl
 | c::r=>by
  have h1:=Io ⟨c.toNat / 16,by have:=c.toNat_lt;omega⟩;have h2:=Io ⟨c.toNat % 16,by omega⟩;simp only at h1 h2;rw[R3,eO,h1,h2,if_neg (by omega),Ip r,Option.map_some];congr 2;rw[Int.toNat_natCast,Int.toNat_natCast,show 16*(c.toNat / 16)+c.toNat % 16=c.toNat by omega];simp
theorem PN (l:List UInt8):∀ c,c∈u7 l->c≠32/\c≠10:=by
 have h:∀ d:Fin 16,jY d.val≠32/\jY d.val≠10:=by decide
 intro c hc;simp only[u7,List.mem_flatMap,List.mem_cons,List.not_mem_nil,or_false] at hc;obtain⟨b,_,rfl | rfl⟩:=hc
 ·exact h ⟨b.toNat / 16,by have:=b.toNat_lt;omega⟩
 ·exact h ⟨b.toNat % 16,by omega⟩
theorem UJ (nm c:List UInt8):nT nm c=(nm++32::u7 c)++10 :: []:=by simp[nT,RZ]
theorem UK (nm c:List UInt8) (h:∀ x,x∈nm->x≠32):rH (nm++32::u7 c)=some (nm,c):=by
 unfold rH;rw[Ct 32 nm _ h];simp[Ip]
def ku (P:List (List UInt8×List UInt8)):List UInt8:=P.flatMap fun p=>nT p.1 p.2
theorem PO (P:List (List UInt8×List UInt8)):P.length<=(ku P).length:=by
 induction P with
 | nil=>simp
 | cons p P ih=>
  have:ku (p::P)=nT p.1 p.2++ku P:=by simp[ku]
  rw[this,List.length_append,BS];simp
  omega
theorem Iq:∀ (P:List (List UInt8×List UInt8)) (n:Nat),P.length<n->(∀ p,p∈P->∀ x,x∈p.1->x≠32/\x≠10)->lu n (ku P)=some (P.map Prod.fst,P.map Prod.snd)
 | [],n,hn,_=>by
  obtain⟨m,rfl⟩:∃ m,n=m+1:=⟨n-1,by simp at hn;omega⟩;simp[ku,lu]
 | p::P,n,hn,h=>by
  obtain⟨m,rfl⟩:∃ m,n=m+1:=⟨n-1,by simp at hn;omega⟩;have ih:=Iq P m (by simp at hn;omega) fun q hq=>h q (by simp[hq])
  have h1:=h p (by simp);have hl:ku (p::P)=(p.1++32::u7 p.2)++10::ku P:=by
   have:ku (p::P)=nT p.1 p.2++ku P:=by simp[ku]
   rw[this,UJ];simp
  have hc:aI 10 (ku (p::P))=(p.1++32::u7 p.2,ku P,true):=by
   rw[hl];refine Ct 10 _ _ fun x hx=>?_
   rcases List.mem_append.1 hx with hx | hx
   ·exact (h1 x hx).2
   ·rcases List.mem_cons.1 hx with rfl | hx
    ·decide
    ·exact (PN _ x hx).2
  rw[lu,if_neg (by rw[hl];simp),hc];simp only
  rw[if_neg (by simp),UK p.1 p.2 fun x hx=>(h1 x hx).1,ih];simp
theorem BZ (v:Int) (h0 : -1099511627776<=v) (h1:v<=1099511627776):iq (Lib.itoa v)=some v:=by
 unfold iq;rw[Rz v h0 h1];simp only
 rw[if_pos ⟨by have:=lS v h0 h1;omega,trivial⟩]
theorem oO (v:Int):∀ c,c∈Lib.itoa v->c≠32/\c≠10:=fun c hc=>by
 rcases Ph v c hc with h | rfl
 ·unfold zT at h;constructor
  ·rintro rfl;revert h;decide
  ·rintro rfl;revert h;decide
 ·decide
def headW (f s n:Int):List UInt8:=[98,108,111,99,107]++32::(Lib.itoa f++32::(Lib.itoa s++32::Lib.itoa n))
theorem R4 (f s n:Int) (hf:iq (Lib.itoa f)=some f) (hs:iq (Lib.itoa s)=some s) (hn:iq (Lib.itoa n)=some n):lY (headW f s n)=some (f,s,n):=by
 unfold lY headW;rw[wX 32 _ [98,108,111,99,107] [] (by decide),wX 32 _ (Lib.itoa f) [] (fun b hb=>(oO f b hb).1),wX 32 _ (Lib.itoa s) [] (fun b hb=>(oO s b hb).1),D6 32 (Lib.itoa n) [] (fun b hb=>(oO n b hb).1)];simp only[List.nil_append];rw[if_pos trivial,hf,hs,hn]
theorem UL (f s:Int) (n:Nat):tF f s n=headW f s n++10 :: []:=by simp[tF,headW]
theorem Ll {f s:Int} {ss cs:List (List UInt8)} (hl:cs.length=ss.length):oN f s ss cs=headW f s ss.length++10::ku (ss.zip cs):=by
 unfold oN iQ;rw[UL,List.take_of_length_le (by simp[hl])];simp[ku]
theorem UM {f s:Int} {ss cs:List (List UInt8)} (hf:iq (Lib.itoa f)=some f) (hs:iq (Lib.itoa s)=some s) (hn:iq (Lib.itoa (ss.length:Int))=some (ss.length:Int)) (hl:cs.length=ss.length) (hnm:∀ x,x∈ss->∀ c,c∈x->c≠32/\c≠10):mV (oN f s ss cs)=some (f,s,ss,cs):=by
 have hc:aI 10 (oN f s ss cs)=(headW f s ss.length,ku (ss.zip cs),true):=by
  rw[Ll hl];refine Ct 10 _ _ fun x hx=>?_
  simp only[headW,List.mem_append,List.mem_cons,List.not_mem_nil,or_false] at hx;rcases hx with (rfl | rfl | rfl | rfl | rfl) | rfl | hx | rfl | hx | rfl | hx
  ·decide
  ·decide
  ·decide
  ·decide
  ·decide
  ·decide
  ·exact (oO _ x hx).2
  ·decide
  ·exact (oO _ x hx).2
  ·decide
  ·exact (oO _ x hx).2
 have hz1:(ss.zip cs).map Prod.fst=ss:=List.map_fst_zip (by omega);have hz2:(ss.zip cs).map Prod.snd=cs:=List.map_snd_zip (by omega);have hli:=Iq (ss.zip cs) ((oN f s ss cs).length+1) (by
  have:=PO (ss.zip cs);rw[Ll hl];simp only[List.length_append,List.length_cons];omega) fun p hp x hx=>hnm p.1 (by rw[<-hz1];exact List.mem_map_of_mem hp) x hx
 rw[hz1,hz2] at hli;unfold mV;rw[hc];simp only
 rw[if_neg (by simp),R4 f s _ hf hs hn];simp only
 rw[hli];simp
end Go.Proofs.YtdlceolmpcjjiaaGreatDoor
